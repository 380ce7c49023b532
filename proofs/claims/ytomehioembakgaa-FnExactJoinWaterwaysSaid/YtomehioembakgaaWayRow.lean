/- Rows of one's own as waterways: told equal; their blocks apart. -/
import Derived.Test.YtomehioembakgaaWaySpN
import Derived.Test.YtomehioembakgaaWayMark
namespace Go.Proofs.Ytomehioembakgaa
open Go.RowKit Go.PlainAid

/-- A row of integers, one of reaches. -/
abbrev ia (v : Value) (n : Nat) (xs : List Value) : RowOf := ⟨3, 1, v, n, xs⟩
abbrev ra (v : Value) (n : Nat) (xs : List Value) : RowOf := ⟨71, 3, v, n, xs⟩
theorem eqW_row {W : World} {base : Nat} {v1 v2 u1 u2 : Value} {R : List (Int × Int × Int)} {Z : List Int} (h1 : W.ownsRow base 71 3 v1 R.length (flat R)) (h2 : W.ownsRow base 3 1 v2 Z.length (Z.map (.int .i64))) (k1 : W.ownsRow base 71 3 u1 R.length (flat R)) (k2 : W.ownsRow base 3 1 u2 Z.length (Z.map (.int .i64)))
    (hm : R.length ≤ maxLen) (hm2 : Z.length ≤ maxLen) : Calls Try.prog 34 #[.agg #[v1, v2], .agg #[u1, u2]] W fun e w' => e = .returned (.bool true) ∧ Below W.heap.size W w' := by
  obtain ⟨A1, c1, rfl⟩ := own_form2 h1
  obtain ⟨A2, c2, rfl⟩ := own_form2 h2
  obtain ⟨D1, d1, rfl⟩ := own_form2 k1
  obtain ⟨D2, d2, rfl⟩ := own_form2 k2
  exact eqW_same A1 D1 A2 D2 R.length c1 d1 Z.length c2 d2 W.heap.size W.heap.size W.heap.size W.heap.size R Z W rfl hm rfl hm2 (Nat.le_refl _) (Nat.le_refl _) (Nat.le_refl _) (Nat.le_refl _) (own_hasv h1) (own_hasv k1) (own_hasv h2) (own_hasv k2)
theorem St.add4 {w W : World} {cs : List (Nat × Nat × Value)} {rows : List RowOf} (h : St w cs rows W) {r1 r2 r3 r4 : RowOf} (h1 : r1.holds w.heap.size W) (h2 : r2.holds w.heap.size W) (h3 : r3.holds w.heap.size W) (h4 : r4.holds w.heap.size W) : St w cs (r1 :: r2 :: r3 :: r4 :: rows) W :=
  (((h.own r4 h4).own r3 h3).own r2 h2).own r1 h1
/-- Two boxes made one after the other. -/
theorem St.box2 {w W : World} {cs : List (Nat × Nat × Value)} {rows : List RowOf} (h : St w cs rows W) (u v u' v' : Value) (t t' : TypeId) :
    St w ((W.heap.size + 1, 0, u') :: (W.heap.size + 1, 1, v') :: (W.heap.size, 0, u) :: (W.heap.size, 1, v) :: cs) rows ((W.alloc (.cells #[u, v] t)).alloc (.cells #[u', v'] t')) := by
  have := (h.box u v t).box u' v' t'
  rw [World.size_alloc] at this
  exact this
theorem apart_of {W : World} {b : Nat} {r r' : RowOf} (h : r.holds b W) (h' : r'.holds b W) (hne : r.e ≠ r'.e) : r.v.ownBlock = none ∨ r.v.ownBlock ≠ r'.v.ownBlock := own_ne h h' hne
theorem ne_num {v : Value} {lo hi h : Nat} (hv : ∀ g, v.ownBlock = some g → lo ≤ g ∧ g < hi) (hn : h < lo ∨ hi ≤ h) : v.ownBlock = none ∨ v.ownBlock ≠ some h := by
  cases e : v.ownBlock with
  | none => exact .inl rfl
  | some g =>
    refine .inr fun e2 => ?_
    have := hv g e
    injection e2 with e2
    omega
theorem ri_ne : (71 : TypeId) ≠ 3 := by decide
theorem ir_ne : (3 : TypeId) ≠ 71 := by decide
theorem ne_sym {v v' : Value} (h : v.ownBlock = none ∨ v.ownBlock ≠ v'.ownBlock) : v'.ownBlock = none ∨ v'.ownBlock ≠ v.ownBlock := by
  rcases h with h | h
  · rw [h]
    cases v'.ownBlock <;> simp
  · exact .inr (Ne.symm h)
end Go.Proofs.Ytomehioembakgaa
