/- Texts that are joined: Reach, WayGood, WayTotal. -/
import Derived.Test.YtliebicnejbheabGreatDoorMg02
import Derived.Lib.QuietBelow
import Derived.Deep.MidRow
import Derived.Deep.Slices
/- Chapter 2: one reach: its copy, its equality, whether it is valid. -/
namespace Go.Proofs.YtliebicnejbheabGreatDoor
open Go.RowKit Go.PlainAid

/-- A reach as a value. -/
def rv (l d s : Int) : Value := .agg #[.int .i64 l, .int .i64 d, .int .i64 s]

/-- What makes a reach valid. -/
def goodR (l d s : Int) : Prop := (1 ≤ l ∧ l ≤ 100) ∧ (100 ≤ d ∧ d ≤ 900) ∧ (1 ≤ s ∧ s ≤ 20)
instance (l d s : Int) : Decidable (goodR l d s) := by unfold goodR; infer_instance

end Go.Proofs.YtliebicnejbheabGreatDoor

/- Chapter 2: whether a waterway is valid. -/
namespace Go.Proofs.YtliebicnejbheabGreatDoor
open Go.RowKit Go.PlainAid

theorem cellNew (w : World) (cs : Array Value) (t : TypeId) (k : Nat) : (w.alloc (.cells cs t)).cell? ⟨w.heap.size, k, none⟩ = cs[k]? :=
  cell_of_row _ _ k cs t (0, 0) (heap_alloc_new w _)
/-- The cells of a row of reaches. -/
def flat : List (Int × Int × Int) → List Value
  | [] => []
  | r :: t => .int .i64 r.1 :: .int .i64 r.2.1 :: .int .i64 r.2.2 :: flat t
theorem flat_len : ∀ rs, (flat rs).length = 3 * rs.length
  | [] => rfl
  | r :: t => by simp only [flat, List.length_cons, flat_len t]; omega
theorem flat_at : ∀ (rs : List (Int × Int × Int)) (k : Nat) (h : k < rs.length),
    (flat rs)[k * 3]? = some (.int .i64 rs[k].1) ∧ (flat rs)[k * 3 + 1]? = some (.int .i64 rs[k].2.1) ∧ (flat rs)[k * 3 + 2]? = some (.int .i64 rs[k].2.2)
  | [], k, h => absurd h (by simp)
  | r :: t, 0, _ => ⟨rfl, rfl, rfl⟩
  | r :: t, k + 1, h => by
    have ih := flat_at t k (by simpa using h)
    have e : (k + 1) * 3 = k * 3 + 1 + 1 + 1 := by omega
    rw [e]
    exact ih
theorem Has.reachAt {w : World} {B : Nat} {A : Option Addr} {rs : List (Int × Int × Int)} (h : Has w B A (flat rs)) {k : Nat} (hk : k < rs.length) :
    ∃ a, A = some a ∧ a.block < B ∧ w.cell? (a.add (k * 3)) = some (.int .i64 rs[k].1) ∧ w.cell? (a.add (k * 3 + 1)) = some (.int .i64 rs[k].2.1) ∧ w.cell? (a.add (k * 3 + 2)) = some (.int .i64 rs[k].2.2) := by
  obtain ⟨f0, f1, f2⟩ := flat_at rs k hk
  obtain ⟨a, rfl, hb, h0⟩ := h _ _ f0
  obtain ⟨a1, e1, -, h1⟩ := h _ _ f1
  obtain ⟨a2, e2, -, h2⟩ := h _ _ f2
  injection e1 with e1
  injection e2 with e2
  subst e1
  subst e2
  exact ⟨a, rfl, hb, h0, h1, h2⟩

theorem add_form (x : Addr) (i : Nat) (h : i ≠ 0) : x.add i = ⟨x.block, x.off + i, none⟩ := by
  unfold Addr.add
  rw [if_neg h]
/-- The same cells as the walk asks for them. -/
theorem reach_forms {w : World} {a : Addr} {k : Nat} {u1 u2 : Value} (h1 : w.cell? (a.add (k * 3 + 1)) = some u1) (h2 : w.cell? (a.add (k * 3 + 2)) = some u2) :
    w.cell? ⟨(a.add (k * 3)).block, (a.add (k * 3)).off + 1, none⟩ = some u1 ∧ w.cell? ⟨(a.add (k * 3)).block, (a.add (k * 3)).off + 2, none⟩ = some u2 := by
  rw [← Go.Deep.add_add, add_form _ _ (by omega)] at h1 h2
  exact ⟨h1, h2⟩

/-- What the place j of a waterway must be. -/
def okAt (rs : List (Int × Int × Int)) (zs : List Int) (j : Nat) : Prop :=
  goodR (rs.getD j (0, 0, 0)).1 (rs.getD j (0, 0, 0)).2.1 (rs.getD j (0, 0, 0)).2.2 ∧ (0 < j → -1000 ≤ zs.getD (j - 1) 0 ∧ zs.getD (j - 1) 0 ≤ 1000)
theorem okAt_iff {rs : List (Int × Int × Int)} {zs : List Int} {j : Nat} (h : j < rs.length) (hz : zs.length + 1 = rs.length) :
    okAt rs zs j ↔ goodR rs[j].1 rs[j].2.1 rs[j].2.2 ∧ (∀ h0 : 0 < j, -1000 ≤ zs[j - 1]'(by omega) ∧ zs[j - 1]'(by omega) ≤ 1000) := by
  unfold okAt
  simp only [List.getD_eq_getElem?_getD, List.getElem?_eq_getElem h, Option.getD_some]
  constructor
  · rintro ⟨a, b⟩
    refine ⟨a, fun h0 => ?_⟩
    have := b h0
    rwa [List.getElem?_eq_getElem (by omega), Option.getD_some] at this
  · rintro ⟨a, b⟩
    refine ⟨a, fun h0 => ?_⟩
    rw [List.getElem?_eq_getElem (by omega), Option.getD_some]
    exact b h0
/-- A valid waterway. -/
def goodW (rs : List (Int × Int × Int)) (zs : List Int) : Prop := (1 ≤ rs.length ∧ rs.length ≤ 6) ∧ zs.length + 1 = rs.length ∧ ∀ j, j < rs.length → okAt rs zs j

end Go.Proofs.YtliebicnejbheabGreatDoor

/- Chapter 2: the length of a waterway; the sizes of a row of reaches. -/
namespace Go.Proofs.YtliebicnejbheabGreatDoor
open Go.RowKit Go.PlainAid

/-- The length of the first k reaches. -/
def tot (rs : List (Int × Int × Int)) (k : Nat) : Int := ((rs.take k).map (·.1)).sum
theorem tot_step (rs : List (Int × Int × Int)) (k : Nat) (h : k < rs.length) : tot rs (k + 1) = tot rs k + rs[k].1 := by
  unfold tot
  rw [List.take_succ_eq_append_getElem h, List.map_append, List.sum_append]
  simp
theorem tot_bd (rs : List (Int × Int × Int)) (hb : ∀ r ∈ rs, 0 ≤ r.1 ∧ r.1 ≤ 1000) : ∀ k, k ≤ rs.length → 0 ≤ tot rs k ∧ tot rs k ≤ 1000 * k
  | 0, _ => by simp [tot]
  | k + 1, h => by
    have ih := tot_bd rs hb k (by omega)
    have := hb _ (List.getElem_mem (show k < rs.length by omega))
    rw [tot_step rs k (by omega)]
    omega

end Go.Proofs.YtliebicnejbheabGreatDoor
