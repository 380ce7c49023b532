/- Rows of lockages: their cells, their copy, their equality, their size, marks. Written by tools/mkst.py. -/
import Derived.Test.YtdleidlmjliapaaStk
namespace Go.Proofs.Ytdleidlmjliapaa
open Go.RowKit Go.PlainAid Go.Sort

structure Tlockage where
  x0 : Int
  x1 : Bool
  x2 : Int
  x3 : Int
/-- Its value. -/
abbrev vallockage (v : Tlockage) : Value := .agg #[.int .i64 v.x0, .bool v.x1, .int .i64 v.x2, .int .i64 v.x3]
/-- The cells of a row. -/
def flatlockage : List Tlockage → List Value
  | [] => []
  | v :: t => .int .i64 v.x0 :: .bool v.x1 :: .int .i64 v.x2 :: .int .i64 v.x3 :: flatlockage t
theorem flatlockage_len : ∀ vs, (flatlockage vs).length = 4 * vs.length
  | [] => rfl
  | v :: t => by simp only [flatlockage, List.length_cons, flatlockage_len t]; omega
theorem flatlockage_append : ∀ (rs ts : List Tlockage), flatlockage (rs ++ ts) = flatlockage rs ++ flatlockage ts
  | [], _ => rfl
  | r :: rs, ts => by simp only [List.cons_append, flatlockage, flatlockage_append rs ts]
theorem flatlockage_at : ∀ (vs : List Tlockage) (k : Nat) (h : k < vs.length),
    (flatlockage vs)[k * 4]? = some (.int .i64 vs[k].x0) ∧ (flatlockage vs)[k * 4 + 1]? = some (.bool vs[k].x1) ∧ (flatlockage vs)[k * 4 + 2]? = some (.int .i64 vs[k].x2) ∧ (flatlockage vs)[k * 4 + 3]? = some (.int .i64 vs[k].x3)
  | [], k, h => absurd h (by simp)
  | v :: t, 0, _ => ⟨rfl, rfl, rfl, rfl⟩
  | v :: t, k + 1, h => by
    have ih := flatlockage_at t k (by simpa using h)
    have e : (k + 1) * 4 = k * 4 + 1 + 1 + 1 + 1 := by omega
    rw [e]
    exact ih
def nolockage : Tlockage := ⟨0, false, 0, 0⟩
theorem getlockage {vs : List Tlockage} {j : Nat} (h : j < vs.length) : vs.getD j nolockage = vs[j] := by
  rw [List.getD_eq_getElem?_getD, List.getElem?_eq_getElem h]
  rfl
/-- One of a row that lies at a. -/
structure lockageAt (w : World) (a : Addr) (k : Nat) (v : Tlockage) : Prop where
  c0 : w.cell? (a.add (k * 4)) = some (.int .i64 v.x0)
  c1 : w.cell? ⟨(a.add (k * 4)).block, (a.add (k * 4)).off + 1, none⟩ = some (.bool v.x1)
  c2 : w.cell? ⟨(a.add (k * 4)).block, (a.add (k * 4)).off + 2, none⟩ = some (.int .i64 v.x2)
  c3 : w.cell? ⟨(a.add (k * 4)).block, (a.add (k * 4)).off + 3, none⟩ = some (.int .i64 v.x3)
theorem Has.lockage {w : World} {B : Nat} {A : Option Addr} {vs : List Tlockage} (h : Has w B A (flatlockage vs)) {k : Nat} (hk : k < vs.length) :
    ∃ a, A = some a ∧ a.block < B ∧ lockageAt w a k (vs.getD k nolockage) := by
  obtain ⟨f0, f1, f2, f3⟩ := flatlockage_at vs k hk
  obtain ⟨a, rfl, hb, h0⟩ := h _ _ f0
  obtain ⟨a1, e1, -, h1⟩ := h _ _ f1
  injection e1 with e1
  subst e1
  rw [← Go.Deep.add_add, addFormS _ _ (by omega)] at h1
  obtain ⟨a2, e2, -, h2⟩ := h _ _ f2
  injection e2 with e2
  subst e2
  rw [← Go.Deep.add_add, addFormS _ _ (by omega)] at h2
  obtain ⟨a3, e3, -, h3⟩ := h _ _ f3
  injection e3 with e3
  subst e3
  rw [← Go.Deep.add_add, addFormS _ _ (by omega)] at h3
  rw [getlockage hk]
  exact ⟨a, rfl, hb, h0, h1, h2, h3⟩


open Go.ChangeShapes Go.WideShapes Go.Deep in
/-- One that came in. -/
theorem open_lockage {H : Type} {enc : TypeId × Value → H} {P : Program} {w : World} {base : Nat} {spare : Nat → Bool} {held : Bool} {t : TypeId} {r : Reach} {b0 : Nat} {f0 f1 f2 f3 : Field} {v : Value} {D : DataW H} {p : List MemPlace}
    (hs : P.underlying t = some (.struct #[f0, f1, f2, f3])) (hone : oneCellFields P #[f0, f1, f2, f3] = true) (hC : P.cellsOf t = 4)
    (h0 : P.underlying f0.type = some (.int .i64)) (h1 : P.underlying f1.type = some .bool) (h2 : P.underlying f2.type = some (.int .i64)) (h3 : P.underlying f3.type = some (.int .i64))
    (hv : Value.okWide P w r b0 t v) (h : DataW.Trod enc P w base spare held t v D p) :
    ∃ (x0 : Int) (x1 : Bool) (x2 : Int) (x3 : Int), v = .agg #[.int .i64 x0, .bool x1, .int .i64 x2, .int .i64 x3] := by
  obtain ⟨cs, rfl, hsz⟩ := okWide_struct hs hv
  rw [hC] at hsz
  obtain ⟨fuel, ht'⟩ := h
  obtain ⟨ys, n', _, _, _, hyl, hg⟩ := DataW.trod_struct hs ht'
  obtain ⟨o0, k0⟩ := hone_of hone 0 f0 rfl
  obtain ⟨o1, k1⟩ := hone_of hone 1 f1 rfl
  obtain ⟨o2, k2⟩ := hone_of hone 2 f2 rfl
  obtain ⟨o3, k3⟩ := hone_of hone 3 f3 rfl
  obtain ⟨L⟩ := cs
  match L, hsz, ys, hyl with
  | [c0, c1, c2, c3], _, [y0, y1, y2, y3], _ =>
    have g0 := hg 0 f0 rfl
    have g1 := hg 1 f1 rfl
    have g2 := hg 2 f2 rfl
    have g3 := hg 3 f3 rfl
    rw [o0, k0] at g0
    rw [o1, k1] at g1
    rw [o2, k2] at g2
    rw [o3, k3] at g3
    obtain ⟨x0, e0, -, -⟩ := DataW.trod_int h0 g0
    obtain ⟨x1, e1, -, -⟩ := DataW.trod_bool h1 g1
    obtain ⟨x2, e2, -, -⟩ := DataW.trod_int h2 g2
    obtain ⟨x3, e3, -, -⟩ := DataW.trod_int h3 g3
    injection e0 with e0 _
    injection e1 with e1 _
    injection e2 with e2 _
    injection e3 with e3 _
    exact ⟨x0, x1, x2, x3, by rw [← e0, ← e1, ← e2, ← e3]⟩
theorem rowslockage {w : World} {a : Addr} : ∀ (m : Nat),
    (∀ i, i < m → ∃ v : Tlockage, w.cell? (a.add (i * 4)) = some (.int .i64 v.x0) ∧ w.cell? (a.add (i * 4 + 1)) = some (.bool v.x1) ∧ w.cell? (a.add (i * 4 + 2)) = some (.int .i64 v.x2) ∧ w.cell? (a.add (i * 4 + 3)) = some (.int .i64 v.x3)) →
    ∃ vs : List Tlockage, vs.length = m ∧ Has w w.heap.size (some a) (flatlockage vs)
  | 0, _ => ⟨[], rfl, Has.nil _ _ _⟩
  | m + 1, h => by
    obtain ⟨vs, hl, hh⟩ := rowslockage m (fun i hi => h i (by omega))
    obtain ⟨v, c0, c1, c2, c3⟩ := h m (by omega)
    have hb : a.block < w.heap.size := by
      have := World.block_lt_of_cell? w (a.add (m * 4)) c0
      rwa [addBlock] at this
    refine ⟨vs ++ [v], by simp [hl], ?_⟩
    intro k u hu
    rw [flatlockage_append] at hu
    have hfl : (flatlockage vs).length = m * 4 := by rw [flatlockage_len, hl]; omega
    by_cases hk : k < m * 4
    · rw [List.getElem?_append_left (by omega)] at hu
      exact hh k u hu
    · rw [List.getElem?_append_right (by omega), hfl] at hu
      obtain ⟨j, rfl⟩ : ∃ j, k = m * 4 + j := ⟨k - m * 4, by omega⟩
      rw [Nat.add_sub_cancel_left] at hu
      match j, hu with
      | 0, hu => injection hu with hu; exact ⟨a, rfl, hb, by rw [← hu]; exact c0⟩
      | 1, hu => injection hu with hu; exact ⟨a, rfl, hb, by rw [← hu]; exact c1⟩
      | 2, hu => injection hu with hu; exact ⟨a, rfl, hb, by rw [← hu]; exact c2⟩
      | 3, hu => injection hu with hu; exact ⟨a, rfl, hb, by rw [← hu]; exact c3⟩
      | j + 4, hu => simp [flatlockage] at hu
open Go.ChangeShapes Go.WideShapes Go.Deep in
/-- A row that came in. -/
theorem open_lockages {H : Type} {enc : TypeId × Value → H} {P : Program} {w : World} {base : Nat} {spare : Nat → Bool} {held : Bool} {t e : TypeId} {f0 f1 f2 f3 : Field} {fuel : Nat} {cs : List Value} {x : DataW H × List MemPlace}
    (ht : P.underlying t = some (.slice e)) (he : P.underlying e = some (.struct #[f0, f1, f2, f3])) (hone : oneCellFields P #[f0, f1, f2, f3] = true) (hC : P.cellsOf e = 4)
    (h0 : P.underlying f0.type = some (.int .i64)) (h1 : P.underlying f1.type = some .bool) (h2 : P.underlying f2.type = some (.int .i64)) (h3 : P.underlying f3.type = some (.int .i64))
    (h : DataW.trod enc P w base spare held fuel t cs = some x) :
    ∃ (A : Option Addr) (len cap : Nat) (vs : List Tlockage), cs = [.slice A len cap] ∧ vs.length = len ∧ len ≤ maxLen ∧ Has w w.heap.size A (flatlockage vs) := by
  rcases open_slice ht h with ⟨rfl, _⟩ | ⟨a, len, cap, m, n, D, Pl, rfl, _, hl, hm, hmm, _, hi⟩
  · exact ⟨none, 0, 0, [], rfl, rfl, Nat.zero_le _, Has.nil _ _ _⟩
  · have hlm : len ≤ m := by rw [hmm]; split <;> omega
    obtain ⟨vs, hrl, hh⟩ := rowslockage (w := w) (a := a) len (fun i hil => by
      obtain ⟨cs', hc, ht'⟩ := hi i (by omega)
      rw [hC] at hc
      obtain ⟨_, hcl, hat⟩ := World.cells?_some hc
      obtain ⟨ys, n', _, _, _, hyl, hg⟩ := DataW.trod_struct he ht'
      obtain ⟨o0, k0⟩ := hone_of hone 0 f0 rfl
      obtain ⟨o1, k1⟩ := hone_of hone 1 f1 rfl
      obtain ⟨o2, k2⟩ := hone_of hone 2 f2 rfl
      obtain ⟨o3, k3⟩ := hone_of hone 3 f3 rfl
      match cs', hcl, ys, hyl with
      | [c0, c1, c2, c3], _, [y0, y1, y2, y3], _ =>
        have g0 := hg 0 f0 rfl
        have g1 := hg 1 f1 rfl
        have g2 := hg 2 f2 rfl
        have g3 := hg 3 f3 rfl
        rw [o0, k0] at g0
        rw [o1, k1] at g1
        rw [o2, k2] at g2
        rw [o3, k3] at g3
        obtain ⟨x0, e0, -, -⟩ := DataW.trod_int h0 g0
        obtain ⟨x1, e1, -, -⟩ := DataW.trod_bool h1 g1
        obtain ⟨x2, e2, -, -⟩ := DataW.trod_int h2 g2
        obtain ⟨x3, e3, -, -⟩ := DataW.trod_int h3 g3
        injection e0 with e0 _
        injection e1 with e1 _
        injection e2 with e2 _
        injection e3 with e3 _
        have a0 := hat 0 (by omega)
        have a1 := hat 1 (by omega)
        have a2 := hat 2 (by omega)
        have a3 := hat 3 (by omega)
        rw [Go.Deep.add_add] at a0 a1 a2 a3
        refine ⟨⟨x0, x1, x2, x3⟩, ?_, ?_, ?_, ?_⟩
        · rw [← e0]; exact a0
        · rw [← e1]; exact a1
        · rw [← e2]; exact a2
        · rw [← e3]; exact a3)
    exact ⟨some a, len, cap, vs, rfl, hrl, by omega, hh⟩

/-- A row that lies below block B. -/
structure Islockages (w : World) (B : Nat) (A : Option Addr) (n : Nat) (vs : List Tlockage) : Prop where
  len : vs.length = n
  low : B ≤ w.heap.size
  has : Has w B A (flatlockage vs)
theorem Islockages.below {w w' : World} {B C : Nat} {A : Option Addr} {n : Nat} {vs : List Tlockage} (h : Islockages w B A n vs) (hb : Below C w w') (hC : B ≤ C) : Islockages w' B A n vs :=
  ⟨h.len, Nat.le_trans h.low hb.size, h.has.below (hb.mono hC)⟩
theorem Islockages.all {w : World} {B : Nat} {A : Option Addr} {n : Nat} {vs : List Tlockage} (h : Islockages w B A n vs) : Islockages w w.heap.size A n vs :=
  ⟨h.len, Nat.le_refl _, h.has.more h.low⟩
theorem own_lockages {w : World} {base : Nat} {g n c : Nat} {vs : List Tlockage} (h : w.ownsRow base 87 4 (.slice (some ⟨g, 0, none⟩) n c) n (flatlockage vs)) : Islockages w w.heap.size (some ⟨g, 0, none⟩) n vs :=
  ⟨by have := h.1; rw [flatlockage_len] at this; omega, Nat.le_refl _, ownS_has h⟩
theorem Try.infolockage' : (Try.prog.info? 87).map (fun i => (i.zero, i.size, i.bytes)) = some (some (.agg #[.int .i64 0, .bool false, .int .i64 0, .int .i64 0]), 4, 32) := by kernel_rfl




/-- n elements of marks from m on. -/
def mklockage (m : Int) (n : Nat) : List Tlockage := (List.range n).map fun (j : Nat) => ⟨m + 4 * (j : Int), (((m + 4 * (j : Int)) + 1) % 3 == 0), ((m + 4 * (j : Int)) + 1 + 1), ((m + 4 * (j : Int)) + 1 + 1 + 1)⟩
theorem mklockage_len (m : Int) (n : Nat) : (mklockage m n).length = n := by simp [mklockage]
theorem mklockage_at (m : Int) (n k : Nat) (h : k < n) : (mklockage m n)[k]'(by rw [mklockage_len]; exact h) = ⟨(m + 4 * (k : Int)), (((m + 4 * (k : Int)) + 1) % 3 == 0), ((m + 4 * (k : Int)) + 1 + 1), ((m + 4 * (k : Int)) + 1 + 1 + 1)⟩ := by simp [mklockage]
theorem mklockage_cells (m : Int) (n k : Nat) (h : k < n) : (flatlockage (mklockage m n))[k * 4]? = some (.int .i64 (m + 4 * (k : Int))) ∧ (flatlockage (mklockage m n))[k * 4 + 1]? = some (.bool (((m + 4 * (k : Int)) + 1) % 3 == 0)) ∧ (flatlockage (mklockage m n))[k * 4 + 2]? = some (.int .i64 ((m + 4 * (k : Int)) + 1 + 1)) ∧ (flatlockage (mklockage m n))[k * 4 + 3]? = some (.int .i64 ((m + 4 * (k : Int)) + 1 + 1 + 1)) := by
  have := flatlockage_at (mklockage m n) k (by rw [mklockage_len]; exact h)
  rw [mklockage_at m n k h] at this
  exact this


end Go.Proofs.Ytdleidlmjliapaa
