/- Chapter 2: a row of reaches that came in, read as a list. -/
import Derived.Test.YtgnopkemcgbedabWayEq
import Derived.Deep.Slices
import Derived.Deep.Fields
import Derived.ChangeSame
namespace Go.Proofs.Ytgnopkemcgbedab
open Go.RowKit Go.PlainAid

theorem flat_append : ∀ (rs ts : List (Int × Int × Int)), flat (rs ++ ts) = flat rs ++ flat ts
  | [], _ => rfl
  | r :: rs, ts => by simp only [List.cons_append, flat, flat_append rs ts]
theorem rows_of {w : World} {a : Addr} {Q : Int × Int × Int → Prop} : ∀ (m : Nat),
    (∀ i, i < m → ∃ l d s : Int, w.cell? (a.add (i * 3)) = some (.int .i64 l) ∧ w.cell? (a.add (i * 3 + 1)) = some (.int .i64 d) ∧ w.cell? (a.add (i * 3 + 2)) = some (.int .i64 s) ∧ Q (l, d, s)) →
    ∃ rs : List (Int × Int × Int), rs.length = m ∧ (∀ r ∈ rs, Q r) ∧ Has w w.heap.size (some a) (flat rs)
  | 0, _ => ⟨[], rfl, by simp, Has.nil _ _ _⟩
  | m + 1, h => by
    obtain ⟨rs, hl, hq, hh⟩ := rows_of m (fun i hi => h i (by omega))
    obtain ⟨l, d, s, c0, c1, c2, hQ⟩ := h m (by omega)
    have hb : a.block < w.heap.size := by
      have := World.block_lt_of_cell? w (a.add (m * 3)) c0
      rwa [addBlock] at this
    refine ⟨rs ++ [(l, d, s)], by simp [hl], fun r hr => ?_, ?_⟩
    · rcases List.mem_append.1 hr with hr | hr
      · exact hq r hr
      · obtain rfl : r = (l, d, s) := by simpa using hr
        exact hQ
    · intro k u hu
      rw [flat_append] at hu
      have hfl : (flat rs).length = m * 3 := by rw [flat_len, hl]; omega
      by_cases hk : k < m * 3
      · rw [List.getElem?_append_left (by omega)] at hu
        exact hh k u hu
      · rw [List.getElem?_append_right (by omega), hfl] at hu
        obtain ⟨j, rfl⟩ : ∃ j, k = m * 3 + j := ⟨k - m * 3, by omega⟩
        rw [Nat.add_sub_cancel_left] at hu
        match j, hu with
        | 0, hu => injection hu with hu; exact ⟨a, rfl, hb, by rw [← hu]; exact c0⟩
        | 1, hu => injection hu with hu; exact ⟨a, rfl, hb, by rw [← hu]; exact c1⟩
        | 2, hu => injection hu with hu; exact ⟨a, rfl, hb, by rw [← hu]; exact c2⟩
        | j + 3, hu => simp [flat] at hu
open Go.ChangeShapes Go.WideShapes Go.Deep in
theorem open_reaches {H : Type} {enc : TypeId × Value → H} {P : Program} {w : World} {base : Nat} {spare : Nat → Bool} {held : Bool} {t e : TypeId} {f0 f1 f2 : Field} {fuel : Nat} {cs : List Value} {x : DataW H × List MemPlace}
    (ht : P.underlying t = some (.slice e)) (he : P.underlying e = some (.struct #[f0, f1, f2])) (hone : oneCellFields P #[f0, f1, f2] = true) (hC : P.cellsOf e = 3)
    (h0 : P.underlying f0.type = some (.int .i64)) (h1 : P.underlying f1.type = some (.int .i64)) (h2 : P.underlying f2.type = some (.int .i64)) (h : DataW.trod enc P w base spare held fuel t cs = some x) :
    ∃ (A : Option Addr) (len cap : Nat) (rs : List (Int × Int × Int)), cs = [.slice A len cap] ∧ rs.length = len ∧ len ≤ maxLen ∧
      (∀ r ∈ rs, (Lit.int .i64 r.1).wf = true ∧ (Lit.int .i64 r.2.1).wf = true ∧ (Lit.int .i64 r.2.2).wf = true) ∧ Has w w.heap.size A (flat rs) := by
  rcases open_slice ht h with ⟨rfl, _⟩ | ⟨a, len, cap, m, n, D, Pl, rfl, _, hl, hm, hmm, _, hi⟩
  · exact ⟨none, 0, 0, [], rfl, rfl, Nat.zero_le _, by simp, Has.nil _ _ _⟩
  · have hlm : len ≤ m := by rw [hmm]; split <;> omega
    obtain ⟨rs, hrl, hq, hh⟩ := rows_of (w := w) (a := a) (Q := fun r => (Lit.int .i64 r.1).wf = true ∧ (Lit.int .i64 r.2.1).wf = true ∧ (Lit.int .i64 r.2.2).wf = true) len (fun i hil => by
      obtain ⟨cs', hc, ht'⟩ := hi i (by omega)
      rw [hC] at hc
      obtain ⟨_, hcl, hat⟩ := World.cells?_some hc
      obtain ⟨ys, n', _, _, _, hyl, hg⟩ := DataW.trod_struct he ht'
      obtain ⟨o0, k0⟩ := hone_of hone 0 f0 rfl
      obtain ⟨o1, k1⟩ := hone_of hone 1 f1 rfl
      obtain ⟨o2, k2⟩ := hone_of hone 2 f2 rfl
      match cs', hcl, ys, hyl with
      | [c0, c1, c2], _, [y0, y1, y2], _ =>
        have g0 := hg 0 f0 rfl
        have g1 := hg 1 f1 rfl
        have g2 := hg 2 f2 rfl
        rw [o0, k0] at g0
        rw [o1, k1] at g1
        rw [o2, k2] at g2
        obtain ⟨l, e0, -, w0⟩ := DataW.trod_int h0 g0
        obtain ⟨d, e1, -, w1⟩ := DataW.trod_int h1 g1
        obtain ⟨s, e2, -, w2⟩ := DataW.trod_int h2 g2
        injection e0 with e0 _
        injection e1 with e1 _
        injection e2 with e2 _
        have a0 := hat 0 (by omega)
        have a1 := hat 1 (by omega)
        have a2 := hat 2 (by omega)
        rw [Go.Deep.add_add] at a0 a1 a2
        refine ⟨l, d, s, ?_, ?_, ?_, w0, w1, w2⟩
        · rw [← e0]; exact a0
        · rw [← e1]; exact a1
        · rw [← e2]; exact a2)
    exact ⟨some a, len, cap, rs, rfl, hrl, by omega, hq, hh⟩
end Go.Proofs.Ytgnopkemcgbedab
