/- Chapter 12: the mathematics of FnPumps and FnPumpCosts: a task without a pump. -/
import Derived.Test.YtdjoiodkmanacaaPuM
namespace Go.Proofs.Ytdjoiodkmanacaa
set_option linter.unusedVariables false
set_option linter.unusedSimpArgs false

theorem woT_good {t : Tsk} (h : goodT t) {i : Nat} (hi : i < t.ps.length) : goodT (woT t i) ∧ (woT t i).ps.length + 1 = t.ps.length := by
  obtain ⟨h1, h2, h3, h4, h5⟩ := h
  have hlen : (t.ps.take i ++ t.ps.drop (i + 1)).length + 1 = t.ps.length := by
    rw [List.length_append, List.length_take, List.length_drop]
    omega
  refine ⟨⟨h1, h2, ?_, h4, ?_⟩, hlen⟩
  · show (t.ps.take i ++ t.ps.drop (i + 1)).length ≤ 2
    omega
  · intro k hk
    have hk' : k < (t.ps.take i ++ t.ps.drop (i + 1)).length := hk
    show goodU ((t.ps.take i ++ t.ps.drop (i + 1)).getD k noPump)
    have hti : (t.ps.take i).length = i := by rw [List.length_take]; omega
    by_cases hki : k < i
    · have := h5 k (by omega)
      rw [List.getD_eq_getElem?_getD, List.getElem?_append_left (by omega), List.getElem?_take_of_lt hki, ← List.getD_eq_getElem?_getD]
      exact this
    · have := h5 (k + 1) (by omega)
      rw [List.getD_eq_getElem?_getD, List.getElem?_append_right (by omega), List.getElem?_drop, hti, show i + 1 + (k - i) = k + 1 by omega, ← List.getD_eq_getElem?_getD]
      exact this
/-- The plan of a task whose first pump is put back. -/
def upX (xs : List Int) : List Int := xs.map fun x => 2 * x
theorem upX_len (xs : List Int) : (upX xs).length = xs.length := by simp [upX]
theorem upX_at (xs : List Int) (k : Nat) : (upX xs).getD k 0 = 2 * xs.getD k 0 := by
  unfold upX
  rw [List.getD_eq_getElem?_getD, List.getD_eq_getElem?_getD, List.getElem?_map]
  cases xs[k]? <;> simp
theorem upX_prev (xs : List Int) : ∀ k, prevU (upX xs) k = 2 * prevU xs k
  | 0 => by simp [prevU]
  | k + 1 => by simp only [prevU]; exact upX_at xs k
theorem sum_up (g : TPump → Int) (v : TPump) (vs : List TPump) (hv : vs.length ≤ 1) (x : Int) (hx : 0 ≤ x ∧ x ≤ topU vs.length) : sumU g (v :: vs) (2 * x) (vs.length + 1) = sumU g vs x vs.length := by
  match vs, hv with
  | [], _ =>
    obtain rfl : x = 0 := by simp [topU] at hx; omega
    simp [sumU, bitU]
  | [u], _ =>
    have : x = 0 ∨ x = 1 := by simp [topU] at hx; omega
    rcases this with rfl | rfl <;> simp [sumU, bitU]
theorem andn_up {m : Nat} (hm : m ≤ 1) {x y : Int} (hx : 0 ≤ x ∧ x ≤ topU m) (hy : 0 ≤ y ∧ y ≤ topU m) : andnU (2 * x) (2 * y) = 2 * andnU x y ∧ 0 ≤ andnU x y ∧ andnU x y ≤ topU m := by
  have hmm : m = 0 ∨ m = 1 := by omega
  rcases hmm with rfl | rfl
  · obtain rfl : x = 0 := by simp [topU] at hx; omega
    obtain rfl : y = 0 := by simp [topU] at hy; omega
    decide
  · have h1 : x = 0 ∨ x = 1 := by simp [topU] at hx; omega
    have h2 : y = 0 ∨ y = 1 := by simp [topU] at hy; omega
    rcases h1 with rfl | rfl <;> rcases h2 with rfl | rfl <;> decide
theorem inX_at {m : Nat} {xs : List Int} (h : inX m xs) (k : Nat) : 0 ≤ xs.getD k 0 ∧ xs.getD k 0 ≤ topU m := by
  by_cases hk : k < xs.length
  · exact h k hk
  · rw [List.getD_eq_getElem?_getD, List.getElem?_eq_none (by omega)]
    exact ⟨Int.le_refl _, (topU_bd m).1⟩
theorem inX_prev {m : Nat} {xs : List Int} (h : inX m xs) : ∀ k, 0 ≤ prevU xs k ∧ prevU xs k ≤ topU m
  | 0 => ⟨Int.le_refl _, (topU_bd m).1⟩
  | k + 1 => inX_at h k
section
variable {t : Tsk} {v : TPump} {vs : List TPump}
theorem wo0 (hp : t.ps = v :: vs) : (woT t 0).ps = vs := by simp [woT, hp]
theorem out_up (hp : t.ps = v :: vs) (hv : vs.length ≤ 1) {x : Int} (hx : 0 ≤ x ∧ x ≤ topU vs.length) : outU t (2 * x) = outU (woT t 0) x := by
  unfold outU
  rw [wo0 hp, hp]
  exact sum_up _ v vs hv x hx
theorem hc_up (hp : t.ps = v :: vs) (hv : vs.length ≤ 1) {x y : Int} (hx : 0 ≤ x ∧ x ≤ topU vs.length) (hy : 0 ≤ y ∧ y ≤ topU vs.length) : hcU t (2 * x) (2 * y) = hcU (woT t 0) x y := by
  obtain ⟨e, h1, h2⟩ := andn_up hv hx hy
  unfold hcU
  rw [wo0 hp, hp, e]
  rw [show (v :: vs).length = vs.length + 1 from rfl, sum_up _ v vs hv x hx, sum_up _ v vs hv _ ⟨h1, h2⟩]
theorem lv_up (hp : t.ps = v :: vs) (hv : vs.length ≤ 1) {xs : List Int} (hx : inX vs.length xs) : ∀ k, lvU t (upX xs) k = lvU (woT t 0) xs k
  | 0 => rfl
  | k + 1 => by
    rw [lvU, lvU, lv_up hp hv hx k, upX_at, out_up hp hv (inX_at hx k)]
    rfl
theorem cost_up (hp : t.ps = v :: vs) (hv : vs.length ≤ 1) {xs : List Int} (hx : inX vs.length xs) : ∀ k, costU t (upX xs) k = costU (woT t 0) xs k
  | 0 => rfl
  | k + 1 => by rw [costU, costU, cost_up hp hv hx k, upX_at, upX_prev, hc_up hp hv (inX_at hx k) (inX_prev hx k)]
end
/-- Without its first pump a task is never cheaper. -/
theorem cheap_less {t : Tsk} (h : goodT t) (hp : 0 < t.ps.length) (h1 : 0 ≤ (cheapU t).2) (h2 : 0 ≤ (cheapU (woT t 0)).2) : (cheapU t).2 ≤ (cheapU (woT t 0)).2 := by
  obtain ⟨v, vs, hps⟩ : ∃ v vs, t.ps = v :: vs := by
    cases e : t.ps with
    | nil => rw [e] at hp; exact absurd hp (by simp)
    | cons v vs => exact ⟨v, vs, rfl⟩
  have hv : vs.length ≤ 1 := by have := h.2.2.1; rw [hps] at this; simpa using this
  rcases cheapU_of (woT_good h hp).1 with ⟨-, e⟩ | ⟨O, g1, g2, g3, -⟩
  · rw [e] at h2; exact absurd h2 (by decide)
  · rcases cheapU_of h with ⟨-, e⟩ | ⟨P, -, -, p3, p4⟩
    · rw [e] at h1; exact absurd h1 (by decide)
    · have hin : inX vs.length O := by have := g1.2.2; rwa [wo0 hps] at this
      have hx : goodX t (upX O) := ⟨h, (upX_len O).trans g1.2.1, fun k hk => by
        have := inX_at hin k
        rw [upX_at, hps]
        have hvv : vs.length = 0 ∨ vs.length = 1 := by omega
        rcases hvv with q | q <;> rw [q] at this <;> simp [topU, q] at this ⊢ <;> omega⟩
      have hs : SafO t (upX O) := fun j hj => by
        rw [lv_up hps hv hin]
        exact g2 j (by rwa [upX_len] at hj)
      have := p4 (upX O) hx hs
      rw [cost_up hps hv hin, upX_len] at this
      rw [p3, g3]
      exact this
end Go.Proofs.Ytdjoiodkmanacaa
