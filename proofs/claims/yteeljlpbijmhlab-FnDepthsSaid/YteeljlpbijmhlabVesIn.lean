/- Chapter 3: rows of vessels: their cells, their copy, their equality, their size. -/
import Derived.Test.YteeljlpbijmhlabVes
import Derived.Test.YteeljlpbijmhlabIntS
import Derived.Deep.MidRow
import Derived.Deep.Slices
import Derived.Deep.Fields
import Derived.ChangeSame
namespace Go.Proofs.Yteeljlpbijmhlab
open Go.RowKit Go.PlainAid Go.Sort

theorem vNew (w : World) (cs : Array Value) (t : TypeId) (k : Nat) : (w.alloc (.cells cs t)).cell? ⟨w.heap.size, k, none⟩ = cs[k]? :=
  cell_of_row _ _ k cs t (0, 0) (heap_alloc_new w _)
/-- A vessel as a value. -/
abbrev vv (v : Ves) : Value := .agg #[.int .i64 v.id, .string v.name, .int .i64 v.len, .int .i64 v.wid, .int .i64 v.dr, .int .i64 v.kind]
/-- The cells of a row of vessels. -/
def flatV : List Ves → List Value
  | [] => []
  | v :: t => .int .i64 v.id :: .string v.name :: .int .i64 v.len :: .int .i64 v.wid :: .int .i64 v.dr :: .int .i64 v.kind :: flatV t
theorem flatV_len : ∀ vs, (flatV vs).length = 6 * vs.length
  | [] => rfl
  | v :: t => by simp only [flatV, List.length_cons, flatV_len t]; omega
theorem flatV_append : ∀ (rs ts : List Ves), flatV (rs ++ ts) = flatV rs ++ flatV ts
  | [], _ => rfl
  | r :: rs, ts => by simp only [List.cons_append, flatV, flatV_append rs ts]
theorem flatV_at : ∀ (vs : List Ves) (k : Nat) (h : k < vs.length),
    (flatV vs)[k * 6]? = some (.int .i64 vs[k].id) ∧ (flatV vs)[k * 6 + 1]? = some (.string vs[k].name) ∧ (flatV vs)[k * 6 + 2]? = some (.int .i64 vs[k].len) ∧ (flatV vs)[k * 6 + 3]? = some (.int .i64 vs[k].wid) ∧ (flatV vs)[k * 6 + 4]? = some (.int .i64 vs[k].dr) ∧ (flatV vs)[k * 6 + 5]? = some (.int .i64 vs[k].kind)
  | [], k, h => absurd h (by simp)
  | v :: t, 0, _ => ⟨rfl, rfl, rfl, rfl, rfl, rfl⟩
  | v :: t, k + 1, h => by
    have ih := flatV_at t k (by simpa using h)
    have e : (k + 1) * 6 = k * 6 + 1 + 1 + 1 + 1 + 1 + 1 := by omega
    rw [e]
    exact ih
theorem addForm (x : Addr) (i : Nat) (h : i ≠ 0) : x.add i = ⟨x.block, x.off + i, none⟩ := by
  unfold Addr.add
  rw [if_neg h]
theorem Has.vesAt {w : World} {B : Nat} {A : Option Addr} {vs : List Ves} (h : Has w B A (flatV vs)) {k : Nat} (hk : k < vs.length) :
    ∃ a, A = some a ∧ a.block < B ∧ w.cell? (a.add (k * 6)) = some (.int .i64 vs[k].id) ∧ w.cell? ⟨(a.add (k * 6)).block, (a.add (k * 6)).off + 1, none⟩ = some (.string vs[k].name) ∧ w.cell? ⟨(a.add (k * 6)).block, (a.add (k * 6)).off + 2, none⟩ = some (.int .i64 vs[k].len) ∧ w.cell? ⟨(a.add (k * 6)).block, (a.add (k * 6)).off + 3, none⟩ = some (.int .i64 vs[k].wid) ∧ w.cell? ⟨(a.add (k * 6)).block, (a.add (k * 6)).off + 4, none⟩ = some (.int .i64 vs[k].dr) ∧ w.cell? ⟨(a.add (k * 6)).block, (a.add (k * 6)).off + 5, none⟩ = some (.int .i64 vs[k].kind) := by
  obtain ⟨f0, f1, f2, f3, f4, f5⟩ := flatV_at vs k hk
  obtain ⟨a, rfl, hb, h0⟩ := h _ _ f0
  obtain ⟨a1, e1, -, h1⟩ := h _ _ f1
  injection e1 with e1
  subst e1
  rw [← Go.Deep.add_add, addForm _ _ (by omega)] at h1
  obtain ⟨a2, e2, -, h2⟩ := h _ _ f2
  injection e2 with e2
  subst e2
  rw [← Go.Deep.add_add, addForm _ _ (by omega)] at h2
  obtain ⟨a3, e3, -, h3⟩ := h _ _ f3
  injection e3 with e3
  subst e3
  rw [← Go.Deep.add_add, addForm _ _ (by omega)] at h3
  obtain ⟨a4, e4, -, h4⟩ := h _ _ f4
  injection e4 with e4
  subst e4
  rw [← Go.Deep.add_add, addForm _ _ (by omega)] at h4
  obtain ⟨a5, e5, -, h5⟩ := h _ _ f5
  injection e5 with e5
  subst e5
  rw [← Go.Deep.add_add, addForm _ _ (by omega)] at h5
  exact ⟨a, rfl, hb, h0, h1, h2, h3, h4, h5⟩

theorem range6 {c : Nat → Option Value} {x0 x1 x2 x3 x4 x5 : Value} (h0 : c 0 = some x0) (h1 : c 1 = some x1) (h2 : c 2 = some x2) (h3 : c 3 = some x3) (h4 : c 4 = some x4) (h5 : c 5 = some x5) : (List.range 6).mapM c = some [x0, x1, x2, x3, x4, x5] := by
  show (List.range' 0 6).mapM c = _
  simp [List.range', h0, h1, h2, h3, h4, h5]




open Go.ChangeShapes Go.WideShapes Go.Deep in
/-- A vessel that came in. -/
theorem open_ves {H : Type} {enc : TypeId × Value → H} {P : Program} {w : World} {base : Nat} {spare : Nat → Bool} {held : Bool} {t : TypeId} {r : Reach} {b0 : Nat} {f0 f1 f2 f3 f4 f5 : Field} {v : Value} {D : DataW H} {p : List MemPlace}
    (hs : P.underlying t = some (.struct #[f0, f1, f2, f3, f4, f5])) (hone : oneCellFields P #[f0, f1, f2, f3, f4, f5] = true) (hC : P.cellsOf t = 6)
    (h0 : P.underlying f0.type = some (.int .i64)) (h1 : P.underlying f1.type = some .string) (h2 : P.underlying f2.type = some (.int .i64)) (h3 : P.underlying f3.type = some (.int .i64)) (h4 : P.underlying f4.type = some (.int .i64)) (h5 : P.underlying f5.type = some (.int .i64))
    (hv : Value.okWide P w r b0 t v) (h : DataW.Trod enc P w base spare held t v D p) :
    ∃ (i : Int) (s : ByteArray) (l b d q : Int), v = .agg #[.int .i64 i, .string s, .int .i64 l, .int .i64 b, .int .i64 d, .int .i64 q] ∧ s.size ≤ maxLen := by
  obtain ⟨cs, rfl, hsz⟩ := okWide_struct hs hv
  rw [hC] at hsz
  obtain ⟨fuel, ht'⟩ := h
  obtain ⟨ys, n', _, _, _, hyl, hg⟩ := DataW.trod_struct hs ht'
  obtain ⟨o0, k0⟩ := hone_of hone 0 f0 rfl
  obtain ⟨o1, k1⟩ := hone_of hone 1 f1 rfl
  obtain ⟨o2, k2⟩ := hone_of hone 2 f2 rfl
  obtain ⟨o3, k3⟩ := hone_of hone 3 f3 rfl
  obtain ⟨o4, k4⟩ := hone_of hone 4 f4 rfl
  obtain ⟨o5, k5⟩ := hone_of hone 5 f5 rfl
  obtain ⟨L⟩ := cs
  match L, hsz, ys, hyl with
  | [c0, c1, c2, c3, c4, c5], _, [y0, y1, y2, y3, y4, y5], _ =>
    have g0 := hg 0 f0 rfl
    have g1 := hg 1 f1 rfl
    have g2 := hg 2 f2 rfl
    have g3 := hg 3 f3 rfl
    have g4 := hg 4 f4 rfl
    have g5 := hg 5 f5 rfl
    rw [o0, k0] at g0
    rw [o1, k1] at g1
    rw [o2, k2] at g2
    rw [o3, k3] at g3
    rw [o4, k4] at g4
    rw [o5, k5] at g5
    obtain ⟨i, e0, -, -⟩ := DataW.trod_int h0 g0
    obtain ⟨s, e1, -, hw⟩ := DataW.trod_string h1 g1
    obtain ⟨l, e2, -, -⟩ := DataW.trod_int h2 g2
    obtain ⟨b, e3, -, -⟩ := DataW.trod_int h3 g3
    obtain ⟨d, e4, -, -⟩ := DataW.trod_int h4 g4
    obtain ⟨q, e5, -, -⟩ := DataW.trod_int h5 g5
    injection e0 with e0 _
    injection e1 with e1 _
    injection e2 with e2 _
    injection e3 with e3 _
    injection e4 with e4 _
    injection e5 with e5 _
    exact ⟨i, s, l, b, d, q, by rw [← e0, ← e1, ← e2, ← e3, ← e4, ← e5], hw⟩

theorem vrows_of {w : World} {a : Addr} : ∀ (m : Nat),
    (∀ i, i < m → ∃ v : Ves, w.cell? (a.add (i * 6)) = some (.int .i64 v.id) ∧ w.cell? (a.add (i * 6 + 1)) = some (.string v.name) ∧ w.cell? (a.add (i * 6 + 2)) = some (.int .i64 v.len) ∧ w.cell? (a.add (i * 6 + 3)) = some (.int .i64 v.wid) ∧ w.cell? (a.add (i * 6 + 4)) = some (.int .i64 v.dr) ∧ w.cell? (a.add (i * 6 + 5)) = some (.int .i64 v.kind) ∧ v.name.size ≤ maxLen) →
    ∃ vs : List Ves, vs.length = m ∧ (∀ v ∈ vs, v.name.size ≤ maxLen) ∧ Has w w.heap.size (some a) (flatV vs)
  | 0, _ => ⟨[], rfl, by simp, Has.nil _ _ _⟩
  | m + 1, h => by
    obtain ⟨vs, hl, hq, hh⟩ := vrows_of m (fun i hi => h i (by omega))
    obtain ⟨v, c0, c1, c2, c3, c4, c5, hQ⟩ := h m (by omega)
    have hb : a.block < w.heap.size := by
      have := World.block_lt_of_cell? w (a.add (m * 6)) c0
      rwa [addBlock] at this
    refine ⟨vs ++ [v], by simp [hl], fun r hr => ?_, ?_⟩
    · rcases List.mem_append.1 hr with hr | hr
      · exact hq r hr
      · obtain rfl : r = v := by simpa using hr
        exact hQ
    · intro k u hu
      rw [flatV_append] at hu
      have hfl : (flatV vs).length = m * 6 := by rw [flatV_len, hl]; omega
      by_cases hk : k < m * 6
      · rw [List.getElem?_append_left (by omega)] at hu
        exact hh k u hu
      · rw [List.getElem?_append_right (by omega), hfl] at hu
        obtain ⟨j, rfl⟩ : ∃ j, k = m * 6 + j := ⟨k - m * 6, by omega⟩
        rw [Nat.add_sub_cancel_left] at hu
        match j, hu with
        | 0, hu => injection hu with hu; exact ⟨a, rfl, hb, by rw [← hu]; exact c0⟩
        | 1, hu => injection hu with hu; exact ⟨a, rfl, hb, by rw [← hu]; exact c1⟩
        | 2, hu => injection hu with hu; exact ⟨a, rfl, hb, by rw [← hu]; exact c2⟩
        | 3, hu => injection hu with hu; exact ⟨a, rfl, hb, by rw [← hu]; exact c3⟩
        | 4, hu => injection hu with hu; exact ⟨a, rfl, hb, by rw [← hu]; exact c4⟩
        | 5, hu => injection hu with hu; exact ⟨a, rfl, hb, by rw [← hu]; exact c5⟩
        | j + 6, hu => simp [flatV] at hu
open Go.ChangeShapes Go.WideShapes Go.Deep in
/-- A row of vessels that came in. -/
theorem open_vess {H : Type} {enc : TypeId × Value → H} {P : Program} {w : World} {base : Nat} {spare : Nat → Bool} {held : Bool} {t e : TypeId} {f0 f1 f2 f3 f4 f5 : Field} {fuel : Nat} {cs : List Value} {x : DataW H × List MemPlace}
    (ht : P.underlying t = some (.slice e)) (he : P.underlying e = some (.struct #[f0, f1, f2, f3, f4, f5])) (hone : oneCellFields P #[f0, f1, f2, f3, f4, f5] = true) (hC : P.cellsOf e = 6)
    (h0 : P.underlying f0.type = some (.int .i64)) (h1 : P.underlying f1.type = some .string) (h2 : P.underlying f2.type = some (.int .i64)) (h3 : P.underlying f3.type = some (.int .i64)) (h4 : P.underlying f4.type = some (.int .i64)) (h5 : P.underlying f5.type = some (.int .i64))
    (h : DataW.trod enc P w base spare held fuel t cs = some x) :
    ∃ (A : Option Addr) (len cap : Nat) (vs : List Ves), cs = [.slice A len cap] ∧ vs.length = len ∧ len ≤ maxLen ∧ (∀ v ∈ vs, v.name.size ≤ maxLen) ∧ Has w w.heap.size A (flatV vs) := by
  rcases open_slice ht h with ⟨rfl, _⟩ | ⟨a, len, cap, m, n, D, Pl, rfl, _, hl, hm, hmm, _, hi⟩
  · exact ⟨none, 0, 0, [], rfl, rfl, Nat.zero_le _, by simp, Has.nil _ _ _⟩
  · have hlm : len ≤ m := by rw [hmm]; split <;> omega
    obtain ⟨vs, hrl, hq, hh⟩ := vrows_of (w := w) (a := a) len (fun i hil => by
      obtain ⟨cs', hc, ht'⟩ := hi i (by omega)
      rw [hC] at hc
      obtain ⟨_, hcl, hat⟩ := World.cells?_some hc
      obtain ⟨ys, n', _, _, _, hyl, hg⟩ := DataW.trod_struct he ht'
      obtain ⟨o0, k0⟩ := hone_of hone 0 f0 rfl
      obtain ⟨o1, k1⟩ := hone_of hone 1 f1 rfl
      obtain ⟨o2, k2⟩ := hone_of hone 2 f2 rfl
      obtain ⟨o3, k3⟩ := hone_of hone 3 f3 rfl
      obtain ⟨o4, k4⟩ := hone_of hone 4 f4 rfl
      obtain ⟨o5, k5⟩ := hone_of hone 5 f5 rfl
      match cs', hcl, ys, hyl with
      | [c0, c1, c2, c3, c4, c5], _, [y0, y1, y2, y3, y4, y5], _ =>
        have g0 := hg 0 f0 rfl
        have g1 := hg 1 f1 rfl
        have g2 := hg 2 f2 rfl
        have g3 := hg 3 f3 rfl
        have g4 := hg 4 f4 rfl
        have g5 := hg 5 f5 rfl
        rw [o0, k0] at g0
        rw [o1, k1] at g1
        rw [o2, k2] at g2
        rw [o3, k3] at g3
        rw [o4, k4] at g4
        rw [o5, k5] at g5
        obtain ⟨i, e0, -, -⟩ := DataW.trod_int h0 g0
        obtain ⟨s, e1, -, hw⟩ := DataW.trod_string h1 g1
        obtain ⟨l, e2, -, -⟩ := DataW.trod_int h2 g2
        obtain ⟨b, e3, -, -⟩ := DataW.trod_int h3 g3
        obtain ⟨d, e4, -, -⟩ := DataW.trod_int h4 g4
        obtain ⟨q, e5, -, -⟩ := DataW.trod_int h5 g5
        injection e0 with e0 _
        injection e1 with e1 _
        injection e2 with e2 _
        injection e3 with e3 _
        injection e4 with e4 _
        injection e5 with e5 _
        have a0 := hat 0 (by omega)
        have a1 := hat 1 (by omega)
        have a2 := hat 2 (by omega)
        have a3 := hat 3 (by omega)
        have a4 := hat 4 (by omega)
        have a5 := hat 5 (by omega)
        rw [Go.Deep.add_add] at a0 a1 a2 a3 a4 a5
        refine ⟨⟨i, s, l, b, d, q⟩, ?_, ?_, ?_, ?_, ?_, ?_, hw⟩
        · rw [← e0]; exact a0
        · rw [← e1]; exact a1
        · rw [← e2]; exact a2
        · rw [← e3]; exact a3
        · rw [← e4]; exact a4
        · rw [← e5]; exact a5)
    exact ⟨some a, len, cap, vs, rfl, hrl, by omega, hq, hh⟩
end Go.Proofs.Yteeljlpbijmhlab
