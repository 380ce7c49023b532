/- Texts that are joined: VesIns, Inv, CatV. -/
import Derived.Test.YtliebicnejbheabGreatDoorMg11
import Derived.Test.YtliebicnejbheabGreatDoorMg00
import Derived.RegionTactic
import Derived.Maps.AppendAt
import Derived.Test.YtliebicnejbheabGreatDoorMg08
import Derived.Lib.AppendZerosOnto
import Derived.Lib.AppendZeros
/- Chapter 3: a vessel inserted into a list, as plain words. -/
namespace Go.Proofs.YtliebicnejbheabGreatDoor
open Go.RowKit Go.PlainAid Go.Sort

/-- The vessel v inserted at p. -/
def ins (vs : List Ves) (p : Nat) (v : Ves) : List Ves := vs.take p ++ v :: vs.drop p
theorem ins_len {vs : List Ves} {p : Nat} {v : Ves} (h : p ≤ vs.length) : (ins vs p v).length = vs.length + 1 := by
  unfold ins
  rw [List.length_append, List.length_cons, List.length_take, List.length_drop]
  omega
theorem ins_at {vs : List Ves} {p : Nat} {v : Ves} (h : p ≤ vs.length) : (ins vs p v).getD p noVes = v := by
  unfold ins
  rw [List.getD_eq_getElem?_getD, List.getElem?_append_right (by rw [List.length_take]; omega), List.length_take, Nat.min_eq_left h]
  simp
theorem ins_lo {vs : List Ves} {p : Nat} {v : Ves} (h : p ≤ vs.length) {j : Nat} (hj : j < p) : (ins vs p v).getD j noVes = vs.getD j noVes := by
  unfold ins
  rw [List.getD_eq_getElem?_getD, List.getElem?_append_left (by rw [List.length_take]; omega), List.getElem?_take, if_pos hj, ← List.getD_eq_getElem?_getD]
theorem ins_hi {vs : List Ves} {p : Nat} {v : Ves} (h : p ≤ vs.length) {j : Nat} (hj : p ≤ j) : (ins vs p v).getD (j + 1) noVes = vs.getD j noVes := by
  unfold ins
  rw [List.getD_eq_getElem?_getD, List.getElem?_append_right (by rw [List.length_take]; omega), List.length_take, Nat.min_eq_left h]
  rw [show j + 1 - p = (j - p) + 1 by omega, List.getElem?_cons_succ, List.getElem?_drop, show p + (j - p) = j by omega, ← List.getD_eq_getElem?_getD]
/-- Where the vessel at j has gone. -/
def gone (p j : Nat) : Nat := if j < p then j else j + 1
theorem ins_gone {vs : List Ves} {p : Nat} {v : Ves} (h : p ≤ vs.length) (j : Nat) : (ins vs p v).getD (gone p j) noVes = vs.getD j noVes := by
  unfold gone
  split
  · next hj => exact ins_lo h hj
  · next hj => exact ins_hi h (by omega)
theorem gone_lt {p i j : Nat} (h : i < j) : gone p i < gone p j := by
  unfold gone
  split <;> split <;> omega
theorem gone_le {p j n : Nat} (h : j < n) : gone p j < n + 1 := by
  unfold gone
  split <;> omega
theorem ins_asc {vs : List Ves} {p : Nat} {v : Ves} (h : p ≤ vs.length) (hg : goodF (ins vs p v)) : Asc vs ∧ (∀ j, j < p → (vs.getD j noVes).id < v.id) ∧ (∀ j, p ≤ j → j < vs.length → v.id < (vs.getD j noVes).id) := by
  have ha := asc_of hg
  have hl := ins_len (v := v) h
  refine ⟨fun i j hij hj => ?_, fun j hj => ?_, fun j hp hj => ?_⟩
  · have := ha (gone p i) (gone p j) (gone_lt hij) (by rw [hl]; exact gone_le hj)
    rwa [ins_gone h, ins_gone h] at this
  · have := ha j p hj (by omega)
    rwa [ins_lo h hj, ins_at h] at this
  · have := ha p (j + 1) (by omega) (by omega)
    rwa [ins_hi h hp, ins_at h] at this
theorem ins_fleet {vs : List Ves} {p : Nat} {v : Ves} (h : p ≤ vs.length) (hg : goodF (ins vs p v)) : goodF vs := by
  have hl := ins_len (v := v) h
  refine ⟨by have := hg.1; omega, fun j hj => ?_⟩
  have h1 := hg.2 (gone p j) (by rw [hl]; exact gone_le hj)
  refine ⟨by have := h1.1; rwa [ins_gone h] at this, fun h0 => (ins_asc h hg).1 (j - 1) j (by omega) hj, fun i hi => ?_⟩
  have := h1.2.2 (gone p i) (gone_lt hi)
  rwa [ins_gone h, ins_gone h] at this
/-- What AddVessel answers. -/
structure Added (vs : List Ves) (v : Ves) (L : List Ves) (x : Bool) : Prop where
  yes : ∀ p, p ≤ vs.length → gF (ins vs p v) = true → L = ins vs p v ∧ x = true
  no : (∀ p, p ≤ vs.length → gF (ins vs p v) = false) → L = [] ∧ x = false
theorem ins_one {vs : List Ves} {v : Ves} {p p' : Nat} (h : p ≤ vs.length) (h' : p' ≤ vs.length) (g : gF (ins vs p v) = true) (hs : (∀ j, j < p' → (vs.getD j noVes).id < v.id) ∧ (∀ j, p' ≤ j → j < vs.length → v.id ≤ (vs.getD j noVes).id)) : p = p' := by
  obtain ⟨-, h1, h2⟩ := ins_asc h ((gF_iff _).1 g)
  rcases Nat.lt_trichotomy p p' with e | e | e
  · have := h2 p (Nat.le_refl _) (by omega)
    have := hs.1 p e
    omega
  · exact e
  · have := h1 p' e
    have := hs.2 p' (Nat.le_refl _) (by omega)
    omega
/-- The place found is the only one that may do. -/
theorem Added.at {vs : List Ves} {v : Ves} {L : List Ves} {x : Bool} (h : Added vs v L x) {p : Nat} (hp : p ≤ vs.length) (hs : Asc vs → (∀ j, j < p → (vs.getD j noVes).id < v.id) ∧ (∀ j, p ≤ j → j < vs.length → v.id ≤ (vs.getD j noVes).id)) (g : gF (ins vs p v) = false) : L = [] ∧ x = false :=
  h.no (fun p' hp' => by
    cases e : gF (ins vs p' v) with
    | false => rfl
    | true =>
      obtain rfl := ins_one hp' hp e (hs (ins_asc hp' ((gF_iff _).1 e)).1)
      rw [g] at e
      cases e)
theorem Added.bad {vs : List Ves} {v : Ves} {L : List Ves} {x : Bool} (h : Added vs v L x) (g : gF vs = false) : L = [] ∧ x = false :=
  h.no (fun p hp => by
    cases e : gF (ins vs p v) with
    | false => rfl
    | true =>
      rw [gF_yes (ins_fleet hp ((gF_iff _).1 e))] at g
      cases g)
theorem ins_names {vs : List Ves} {p : Nat} {v : Ves} (h : ∀ u ∈ vs, u.name.size ≤ maxLen) (hv : v.name.size ≤ maxLen) : ∀ u ∈ ins vs p v, u.name.size ≤ maxLen := by
  intro u hu
  unfold ins at hu
  rcases List.mem_append.1 hu with h1 | h1
  · exact h u (List.mem_of_mem_take h1)
  · rcases List.mem_cons.1 h1 with h2 | h2
    · rw [h2]; exact hv
    · exact h u (List.mem_of_mem_drop h2)
open Classical in
theorem added_ex (vs : List Ves) (v : Ves) : ∃ (L : List Ves) (x : Bool), L.length ≤ 9 ∧ Added vs v L x := by
  by_cases h : ∃ p, p ≤ vs.length ∧ gF (ins vs p v) = true
  · obtain ⟨p, hp, hg⟩ := h
    refine ⟨ins vs p v, true, by have := ((gF_iff _).1 hg).1; omega, fun p' hp' hg' => ?_, fun g => ?_⟩
    · obtain ⟨-, h1, h2⟩ := ins_asc hp' ((gF_iff _).1 hg')
      obtain rfl := ins_one hp hp' hg ⟨h1, fun j a b => by have := h2 j a b; omega⟩
      exact ⟨rfl, rfl⟩
    · rw [g p hp] at hg; cases hg
  · refine ⟨[], false, by simp, fun p hp hg => absurd ⟨p, hp, hg⟩ h, fun _ => ⟨rfl, rfl⟩⟩
theorem ins_flat (vs : List Ves) (p : Nat) (v : Ves) : flatV (vs.take p) ++ (flatV [v] ++ flatV (vs.drop p)) = flatV (ins vs p v) := by
  unfold ins
  rw [flatV_append]
  rfl
theorem Has.front {w : World} {B : Nat} {A : Option Addr} {xs ys : List Value} (h : Has w B A (xs ++ ys)) : Has w B A xs := by
  intro k u hu
  exact h k u (by rw [List.getElem?_append_left (List.getElem?_eq_some_iff.1 hu).1]; exact hu)
theorem Has.back {w : World} {B : Nat} {a : Addr} {xs ys : List Value} (h : Has w B (some a) (xs ++ ys)) : Has w B (some (a.add xs.length)) ys := by
  intro k u hu
  obtain ⟨a', e, hb, hc⟩ := h (xs.length + k) u (by rw [List.getElem?_append_right (by omega), Nat.add_sub_cancel_left]; exact hu)
  injection e with e
  subst e
  exact ⟨_, rfl, by rw [addBlock]; exact hb, by rw [Go.Deep.add_add]; exact hc⟩
theorem flatV_split (vs : List Ves) (p : Nat) : flatV vs = flatV (vs.take p) ++ flatV (vs.drop p) := by
  rw [← flatV_append, List.take_append_drop]
end Go.Proofs.YtliebicnejbheabGreatDoor

/- A region that draws its order, by an invariant: one step for each operation, whatever has come up before it. -/
namespace Go.Proofs.YtliebicnejbheabGreatDoor
open Go.RowKit Go.PlainAid

/-- Every operation waits for earlier ones only. -/
def depsB (ops : Array Oper) : Bool := (List.range ops.size).all fun i => ((ops[i]?).map fun o => o.after.all fun e => !Region.binds .any e || decide (e.on < i)).getD true
theorem depsB_spec {ops : Array Oper} (h : depsB ops = true) {i : Nat} {o : Oper} (ho : ops[i]? = some o) : ∀ e ∈ o.after, Region.binds .any e = true → e.on < i := by
  intro e he hb
  have hi : i < ops.size := (Array.getElem?_eq_some_iff.1 ho).1
  have := List.all_eq_true.1 h i (List.mem_range.2 hi)
  rw [ho] at this
  simp only [Option.map_some, Option.getD_some] at this
  have h2 := Array.all_eq_true'.1 this e he
  rw [hb] at h2
  simpa using h2

theorem inv_core {P : Program} {ops : Array Oper} {Q : Exit → Act → World → Prop} (hd : depsB ops = true) (J : (Nat → Bool) → Act → World → Prop)
    (hstep : ∀ (L : Nat → Bool) (a : Act) (w : World) (i : Nat) (o : Oper), J L a w → ops[i]? = some o → L i = false → (∀ e ∈ o.after, Region.binds .any e = true → L e.on = true) →
      ∀ K' : Act → World → Prop, (∀ a' w', J (fun j => j == i || L j) a' w' → K' a' w') → if Region.wanted o (yielded ops a.tmps) = true then Oper.wp P o a w K' Q else K' (a.put o.dst undef) w)
    (hend : ∀ (L : Nat → Bool) (a : Act) (w : World), J L a w → (∀ i, i < ops.size → L i = true) → Q .normal a w) :
    ∀ (fuel : Nat) (R : List Nat) (listed : Array Bool) (L : Nat → Bool) (a : Act) (w : World), R.length ≤ fuel → (∀ i, i < ops.size → L i = false → i ∈ R) → listed.size = ops.size →
      (∀ i, i < ops.size → listed[i]? = some (L i)) → J L a w → wpAny P .any ops Q fuel listed a w := by
  have allOf : ∀ (listed : Array Bool) (L : Nat → Bool), listed.size = ops.size → (∀ i, i < ops.size → listed[i]? = some (L i)) → Region.ready .any ops listed = [] → ∀ i, i < ops.size → L i = true := by
    intro listed L hs hL hr i
    induction i using Nat.strongRecOn with
    | _ i ih =>
      intro hi
      cases hf : L i with
      | true => rfl
      | false =>
        have : i ∈ Region.ready .any ops listed := by
          rw [mem_ready]
          refine ⟨by rw [Array.getD_eq_getD_getElem?, hL i hi, hf]; rfl, ops[i], Array.getElem?_eq_getElem hi, fun e he hb => ?_⟩
          have hlt := depsB_spec hd (Array.getElem?_eq_getElem hi) e he hb
          have hlt2 : e.on < ops.size := by omega
          rw [Array.getD_eq_getD_getElem?, hL e.on hlt2, ih e.on hlt hlt2]
          rfl
        rw [hr] at this
        cases this
  intro fuel
  induction fuel with
  | zero =>
    intro R listed L a w hR hmem hs hL hJ
    have hR0 : R = [] := List.eq_nil_of_length_eq_zero (by omega)
    have hall : ∀ i, i < ops.size → L i = true := fun i hi => by
      cases hf : L i with
      | true => rfl
      | false => have := hmem i hi hf; rw [hR0] at this; cases this
    refine ⟨?_, hend L a w hJ hall⟩
    rw [List.eq_nil_iff_forall_not_mem]
    intro j hj
    obtain ⟨h1, o, ho, -⟩ := mem_ready.1 hj
    have hj' : j < ops.size := (Array.getElem?_eq_some_iff.1 ho).1
    rw [Array.getD_eq_getD_getElem?, hL j hj', hall j hj'] at h1
    cases h1
  | succ fuel ih =>
    intro R listed L a w hR hmem hs hL hJ
    refine ⟨fun hr => hend L a w hJ (allOf listed L hs hL hr), fun i hi => ?_⟩
    obtain ⟨h1, o, ho, hdep⟩ := mem_ready.1 hi
    have hi' : i < ops.size := (Array.getElem?_eq_some_iff.1 ho).1
    have hLi : L i = false := by
      rw [Array.getD_eq_getD_getElem?, hL i hi'] at h1
      exact h1
    refine wpOp_step ho fun K' hK => hstep L a w i o hJ ho hLi (fun e he hb => ?_) K' fun a' w' hJ' => hK a' w' (ih (R.erase i) _ (fun j => j == i || L j) a' w' ?_ ?_ ?_ ?_ hJ')
    · have hlt : e.on < ops.size := by have := depsB_spec hd ho e he hb; omega
      have := hdep e he hb
      rw [Array.getD_eq_getD_getElem?, hL e.on hlt] at this
      exact this
    · have := List.length_erase_of_mem (hmem i hi' hLi)
      omega
    · intro j hj hf
      have hne : j ≠ i := by intro e; subst e; simp at hf
      have hLj : L j = false := by
        cases h : L j with
        | false => rfl
        | true => simp [h] at hf
      exact (List.mem_erase_of_ne hne).2 (hmem j hj hLj)
    · simp [hs]
    · intro j hj
      by_cases e : j = i
      · subst e
        rw [Array.getElem?_setIfInBounds_self_of_lt (by omega)]
        simp
      · rw [Array.getElem?_setIfInBounds_ne (Ne.symm e), hL j hj]
        have : (j == i) = false := by simpa using e
        simp [this]

/-- The region goes through if each operation, come up when those that it waits for have, leaves the invariant. -/
theorem region_inv {P : Program} {ops : Array Oper} {Q : Exit → Act → World → Prop} {id : Nat} {a : Act} {w : World} (hm : P.follows .mixedOrders = true) (hd : depsB ops = true) (J : (Nat → Bool) → Act → World → Prop)
    (h0 : J (fun _ => false) a w.drew)
    (hstep : ∀ (L : Nat → Bool) (a : Act) (w : World) (i : Nat) (o : Oper), J L a w → ops[i]? = some o → L i = false → (∀ e ∈ o.after, Region.binds .any e = true → L e.on = true) →
      ∀ K' : Act → World → Prop, (∀ a' w', J (fun j => j == i || L j) a' w' → K' a' w') → if Region.wanted o (yielded ops a.tmps) = true then Oper.wp P o a w K' Q else K' (a.put o.dst undef) w)
    (hend : ∀ (L : Nat → Bool) (a : Act) (w : World), J L a w → (∀ i, i < ops.size → L i = true) → Q .normal a w) : (Code.region id ops true).wp P Q a w :=
  wp_region_any hm (inv_core hd J hstep hend ops.size (List.range ops.size) _ (fun _ => false) a _ (by simp) (fun i hi _ => List.mem_range.2 hi) (by simp) (fun i hi => by simp [hi]) h0)

/-- An append at a step: the new slice is a row of one's own; what lay elsewhere is as it was. -/
theorem step_append {P : Program} {ops : Array Oper} {o : Oper} {a : Act} {w : World} {K : Act → World → Prop} {Q : Exit → Act → World → Prop} {E : Prop} (hgd : o.guard = none) (s x : Operand) (t : TypeId)
    (ho : o.op = .call { callee := .builtin .append, args := #[s, x], argTypes := #[t, t] }) (base : Nat) (e : TypeId) (i : TypeInfo) (z : Value) (size bytes : Nat) (ht : P.underlying t = some (.slice e)) (hi : P.info? e = some i) (hz : i.zero = some z)
    (hsize : i.size = size) (hby : i.bytes = bytes) (hzs : z.cells.size = size) (hsz : 0 < size) (v : Value) (n : Nat) (xs : List Value) (hs : a.eval s = v) (hown : w.ownsRow base e size v n xs)
    (ad : Addr) (m c : Nat) (news : List Value) (hx : a.eval x = .slice (some ad) m c) (hl : news.length = m * size) (hnews : ∀ j u, news[j]? = some u → w.cell? (ad.add j) = some u) (h1 : ∀ u ∈ news, u.oneCell' = true)
    (h63 : n + m ≤ maxLen) (hbytes : (n + m) * bytes ≤ 140737488355328) (hbase : base ≤ w.heap.size) (hv : v ≠ .slice none 0 0)
    (h : ∀ g cap w', w'.ownsRow base e size (.slice (some ⟨g, 0, none⟩) (n + m) cap) (n + m) (xs ++ news) → w.grownBy w' v.ownBlock → K (a.put o.dst (.slice (some ⟨g, 0, none⟩) (n + m) cap)) w') :
    if Region.wanted o (yielded ops a.tmps) = true then Oper.wp P o a w K Q else E := by
  have hw : Region.wanted o (yielded ops a.tmps) = true := by simp [Region.wanted, hgd]
  rw [if_pos hw]
  obtain ⟨v', w', hr, h2, h3, h4, -⟩ := run_append_own_at (P := P) w base t o.type e i z size bytes ht hi hz hsize hby hzs hsz v n xs hown ad m c news hl hnews h1 h63 hbytes hbase
  obtain ⟨g, cap, rfl, -⟩ := own_some h2 (fun e => hv (h4.1 e).1)
  unfold Oper.wp execOp
  simp only [ho, resolve, invoke, builtin, Sem.run_bind, Sem.run_pure, Result.andThen_ok, List.map_toArray, List.map_cons, List.map_nil, hs, hx, hr]
  exact h g cap w' h2 h3
/-- Rows of different kinds lie in different blocks. -/
theorem own_ne {w : World} {b b' : Nat} {e e' : TypeId} {s s' : Nat} {v v' : Value} {n n' : Nat} {xs ys : List Value} (h : w.ownsRow b e s v n xs) (k : w.ownsRow b' e' s' v' n' ys) (hne : e ≠ e') : v.ownBlock = none ∨ v.ownBlock ≠ v'.ownBlock := by
  rcases h.2 with ⟨rfl, -⟩ | ⟨g, cap, cur, rfl, -, hg, -⟩
  · exact .inl rfl
  · rcases k.2 with ⟨rfl, -⟩ | ⟨g', cap', cur', rfl, -, hg', -⟩
    · exact .inr (by simp [Value.ownBlock])
    · refine .inr fun e1 => ?_
      have : g = g' := by simpa [Value.ownBlock] using e1
      subst this
      rw [hg] at hg'
      injection hg' with h1
      injection h1 with _ h2 _
      exact hne h2
/-- A block of another kind. -/
theorem own_off {w : World} {b : Nat} {e e' : TypeId} {s : Nat} {v : Value} {n : Nat} {xs : List Value} {g : Nat} {cs : Array Value} {fr : Nat × Nat} (h : w.ownsRow b e s v n xs) (k : w.heap[g]? = some (.cells cs e' fr)) (hne : e ≠ e') : v.ownBlock ≠ some g := by
  intro hv
  rcases h.2 with ⟨rfl, -⟩ | ⟨g', cap, cur, rfl, -, hg, -⟩
  · simp [Value.ownBlock] at hv
  · have : g' = g := by simpa [Value.ownBlock] using hv
    subst this
    rw [hg] at k
    injection k with h1
    injection h1 with _ h2 _
    exact hne h2
theorem heap_set2 {w : World} {g : Nat} {t : TypeId} {u v u' v' : Value} (h : w.heap[g]? = some (.cells #[u, v] t (0, 0))) : ((w.setCell ⟨g, 0, none⟩ u').setCell ⟨g, 1, none⟩ v').heap[g]? = some (.cells #[u', v'] t (0, 0)) := by
  simp [World.setCell, Array.getElem?_modify, h]
theorem own_form2 {w : World} {base : Nat} {e : TypeId} {size n : Nat} {v : Value} {xs : List Value} (h : w.ownsRow base e size v n xs) : ∃ A c, v = .slice A n c := by
  rcases h.2 with ⟨rfl, rfl⟩ | ⟨g, cap, cur, rfl, _⟩
  · exact ⟨none, 0, rfl⟩
  · exact ⟨_, _, rfl⟩
theorem own_below {w w' : World} {base : Nat} {e : TypeId} {size n : Nat} {v : Value} {xs : List Value} (h : w.ownsRow base e size v n xs) (hb : Below w.heap.size w w') : w'.ownsRow base e size v n xs :=
  h.kept (row := none) ⟨hb.os, hb.tape, hb.output, hb.size, fun k hk _ => hb.block k hk⟩ (by cases v.ownBlock <;> simp)
theorem has_cell1 {w : World} {g : Nat} {v : Value} {t : TypeId} (h : w.heap[g]? = some (.cells #[v] t (0, 0))) : Has w w.heap.size (some ⟨g, 0, none⟩) [v] := by
  intro k u hu
  have hg := (Array.getElem?_eq_some_iff.1 h).1
  match k, hu with
  | 0, hu => exact ⟨_, rfl, hg, (cell_of_row w g 0 _ _ _ h).trans hu⟩
end Go.Proofs.YtliebicnejbheabGreatDoor

/- slices.Grow and slices.Concat over vessels. -/
namespace Go.Proofs.YtliebicnejbheabGreatDoor
open Go.RowKit Go.PlainAid

/-- A part of what is put together: where it lies, how long it is, its cells. -/
structure Part' where
  a : Addr
  n : Nat
  c : Nat
  xs : List Value
def Part'.val (s : Part') : Value := .slice (some s.a) s.n s.c
def total : List Part' → Nat
  | [] => 0
  | s :: t => s.n + total t
def allOf : List Part' → List Value
  | [] => []
  | s :: t => s.xs ++ allOf t
theorem total_append : ∀ (S T : List Part'), total (S ++ T) = total S + total T
  | [], T => by simp [total]
  | s :: S, T => by simp only [List.cons_append, total, total_append S T]; omega
theorem allOf_append : ∀ (S T : List Part'), allOf (S ++ T) = allOf S ++ allOf T
  | [], T => by simp [allOf]
  | s :: S, T => by simp only [List.cons_append, allOf, allOf_append S T, List.append_assoc]
theorem total_take (S : List Part') (k : Nat) (h : k < S.length) : total (S.take (k + 1)) = total (S.take k) + S[k].n := by
  rw [List.take_succ_eq_append_getElem h, total_append]
  simp [total]
theorem allOf_take (S : List Part') (k : Nat) (h : k < S.length) : allOf (S.take (k + 1)) = allOf (S.take k) ++ S[k].xs := by
  rw [List.take_succ_eq_append_getElem h, allOf_append]
  simp [allOf]
theorem total_le (S : List Part') (k : Nat) : total (S.take k) ≤ total S := by
  have := total_append (S.take k) (S.drop k)
  rw [List.take_append_drop] at this
  omega

set_option maxRecDepth 100000 in
set_option maxHeartbeats 2000000 in
theorem growV (m : Nat) (hm : m ≤ 2000000) (w : World) :
    Calls Tryz.prog 59 #[.slice none 0 0, .int .i64 m] w fun e w' => ∃ v, e = .returned v ∧ w'.ownsRow w.heap.size 25 6 v 0 [] ∧ Below w.heap.size w w' := by
  obtain ⟨i0, hi, hz0, hz1, hz2⟩ := info_parts Tryz.infoVes'
  rcases Nat.eq_zero_or_pos m with h0 | h0
  · subst h0
    go_enter Tryz.func59, Tryz.ntmps59
    go_wp2
    go_ret
    exact ⟨_, rfl, ⟨rfl, .inl ⟨rfl, rfl⟩⟩, Below.refl _ _⟩
  · have hrz : ∀ ty, (Builtin.append_ #[33, 3] ty #[.slice none 0 0, .int .i64 m]).run Tryz.prog w = .ok (.slice (some ⟨w.heap.size, 0, none⟩) m (grownCap w m 0 25)) (w.drew.alloc (.cells ((#[] : Array Value) ++ Builtin.zeroCells (.agg #[.int .i64 0, .string ByteArray.empty, .int .i64 0, .int .i64 0, .int .i64 0, .int .i64 0] : Value).cells m ++ Builtin.zeroCells (.agg #[.int .i64 0, .string ByteArray.empty, .int .i64 0, .int .i64 0, .int .i64 0, .int .i64 0] : Value).cells (grownCap w m 0 25 - m)) 25)) := fun ty => by
      have h := Lib.run_append_grow_zeros (P := Tryz.prog) w 33 3 ty 25 i0 (.agg #[.int .i64 0, .string ByteArray.empty, .int .i64 0, .int .i64 0, .int .i64 0, .int .i64 0]) .i64 .i64 Tryz.underlying33 Tryz.underlying3 hi hz0 none 0 0 [] (run_firstCells_none _ _ _ _ _) m h0 (by rw [hz1]; decide) (by omega) (by omega) (by rw [hz2]; omega) (growslice_fits (by omega) (by rw [hz2]; omega))
      simp only [Nat.zero_add] at h
      exact h
    have hG := grownCap_ge w m 0 25
    have hGm := grownCap_le_maxLen w m 0 25 (by unfold maxLen; omega)
    have hsz : ((#[] : Array Value) ++ Builtin.zeroCells (.agg #[.int .i64 0, .string ByteArray.empty, .int .i64 0, .int .i64 0, .int .i64 0, .int .i64 0] : Value).cells m ++ Builtin.zeroCells (.agg #[.int .i64 0, .string ByteArray.empty, .int .i64 0, .int .i64 0, .int .i64 0, .int .i64 0] : Value).cells (grownCap w m 0 25 - m)).size = grownCap w m 0 25 * 6 := by
      simp only [Array.size_append, size_zeroCells]
      have e : (.agg #[.int .i64 0, .string ByteArray.empty, .int .i64 0, .int .i64 0, .int .i64 0, .int .i64 0] : Value).cells.size = 6 := rfl
      rw [e]
      simp
      omega
    generalize grownCap w m 0 25 = G at hrz hG hGm hsz
    generalize (#[] : Array Value) ++ Builtin.zeroCells (.agg #[.int .i64 0, .string ByteArray.empty, .int .i64 0, .int .i64 0, .int .i64 0, .int .i64 0] : Value).cells m ++ Builtin.zeroCells (.agg #[.int .i64 0, .string ByteArray.empty, .int .i64 0, .int .i64 0, .int .i64 0, .int .i64 0] : Value).cells (G - m) = C at hrz hsz
    have hm0 : (0 : Int) < (m : Int) := by omega
    unfold maxLen at hGm
    go_enter Tryz.func59, Tryz.ntmps59
    go_wp2_with (at_builtin; refine Lib.wpList_append_run _ rfl _ _ _ _ rfl _ _ rfl rfl _ _ (hrz _) ?_)
    go_ret
    exact ⟨_, rfl, Drawn.own ⟨1, rfl⟩ (World.ownsRow_made w C G (Nat.le_refl _) (by unfold maxLen; omega) hsz), ((Below.refl _ _).alloc (Nat.le_refl _) _).trans ((Drawn.one _ 1).below _)⟩

set_option maxRecDepth 100000 in
set_option maxHeartbeats 2000000 in
/-- slices.Concat: all the parts in memory of its own. -/
theorem catV (S : List Part') (D : Addr) (m cd BD : Nat) (w : World) (hm : S.length = m) (hm2 : m ≤ 1000) (hBD : BD ≤ w.heap.size) (hh : Has w BD (some D) (S.map Part'.val)) (hS : ∀ s ∈ S, s.xs.length = s.n * 6 ∧ s.n ≤ 2000000 ∧ (∀ u ∈ s.xs, u.oneCell' = true) ∧ Has w BD (some s.a) s.xs) (hN : total S ≤ 2000000) :
    Calls Tryz.prog 41 #[.slice (some D) m cd] w fun e w' => ∃ v, e = .returned v ∧ w'.ownsRow w.heap.size 25 6 v (total S) (allOf S) ∧ Below w.heap.size w w' := by
  obtain ⟨i0, hi, hz0, hz1, hz2⟩ := info_parts Tryz.infoVes'
  have HL := Lib.hid hm
  have H := Lib.hid hh
  have HS := Lib.hid hS
  have HT := Lib.hid (fun k (hk : k < S.length) => total_take S k hk)
  have HX := Lib.hid (fun k (hk : k < S.length) => allOf_take S k hk)
  have HB := Lib.hid (fun k => total_le S k)
  have GR := Lib.hid (fun (n : Nat) (hn : n ≤ 2000000) (W : World) => growV n hn W)
  clear hm hh hS
  go_enter Tryz.func41, Tryz.ntmps41
  go_wp2_with fail
  go_loop [3, 11] (fun t i => ∃ k : Nat, k ≤ m ∧ i = .int .i64 k ∧ t = .int .i64 (total (S.take k) : Nat)) (fun _ i => m - (intOf i).toNat)
  case atStart => exact ⟨0, Nat.zero_le _, rfl, rfl⟩
  case round =>
    obtain ⟨k, hk, rfl, rfl⟩ := hrel
    have hk0 : (0 : Int) ≤ (k : Int) := by omega
    have hb := HB.out k
    by_cases hlt : k < m
    · have hkl : k < S.length := by rw [HL.out]; exact hlt
      obtain ⟨a1, ha1, _, e0⟩ := H.out k ((S[k]'hkl).val) (by simp [hkl])
      injection ha1 with ha1
      subst ha1
      have hn := (HS.out _ (List.getElem_mem hkl)).2.1
      have hE := Lib.hid (HT.out k hkl)
      generalize (S[k]'hkl) = s at e0 hn hE
      obtain ⟨sa, sn, sc, sx⟩ := s
      simp only [Part'.val] at e0 hn
      generalize total (S.take k) = t at hb hE ⊢
      have hk1 : (k : Int) < (m : Int) := by omega
      have ht : ¬ ((t : Int) + (sn : Int) < 0) := by omega
      clear H HS HX GR
      go_wp2_with fail
      go_round
      case rel => exact ⟨k + 1, by omega, by go_num, by rw [hE.out]; push_cast; rfl⟩
      case measure => simp [intOf]; omega
    · obtain rfl : k = m := by omega
      have hTk : total (S.take k) = total S := by rw [List.take_of_length_le (by rw [HL.out]; exact Nat.le_refl _)]
      rw [hTk]
      have G := Lib.hid (GR.out (total S) hN w)
      have hlt4 : ¬ (k : Int) < (k : Int) := by omega
      clear GR hb hTk
      go_wp2_with fail
      refine G.out.mono ?_
      rintro e w1 ⟨v, rfl, ho, hb1⟩
      have O0 := Lib.hid ho
      have B1 := Lib.hid hb1
      clear ho hb1 G
      go_wp2_with fail
      go_loopw [6, 27] (fun t i wr => ∃ q : Nat, q ≤ k ∧ i = .int .i64 q ∧ wr.ownsRow w.heap.size 25 6 t (total (S.take q)) (allOf (S.take q)) ∧ Below w.heap.size w wr) (fun _ i _ => k - (intOf i).toNat)
      case atStart => exact ⟨0, Nat.zero_le _, rfl, O0.out, B1.out⟩
      case round =>
        obtain ⟨q, hq, rfl, hown, hb⟩ := hrel
        have hq0 : (0 : Int) ≤ (q : Int) := by omega
        have hbq := HB.out q
        by_cases hlq : q < k
        · have hql : q < S.length := by rw [HL.out]; exact hlq
          obtain ⟨a1, ha1, _, e0⟩ := (H.out.below (hb.mono hBD)) q ((S[q]'hql).val) (by simp [hql])
          injection ha1 with ha1
          subst ha1
          obtain ⟨hxl, hn, hone, hx⟩ := HS.out _ (List.getElem_mem hql)
          have hcell := fun j u hu => (show wr.cell? ((S[q]'hql).a.add j) = some u by
            obtain ⟨a2, ha2, _, hc⟩ := (hx.below (hb.mono hBD)) j u hu
            injection ha2 with ha2
            subst ha2
            exact hc)
          have hE := Lib.hid (HT.out q hql)
          have hF := Lib.hid (HX.out q hql)
          clear hx
          generalize (S[q]'hql) = s at e0 hn hE hF hxl hone hcell
          obtain ⟨sa, sn, sc, sx⟩ := s
          simp only [Part'.val] at e0 hn hxl hone hcell
          have hbq2 := HB.out (q + 1)
          rw [hE.out] at hbq2
          have hq1 : (q : Int) < (k : Int) := by omega
          have CC := Lib.hid hcell
          have OO := Lib.hid hone
          have XL := Lib.hid hxl
          clear H HS HX O0 hcell hone hxl
          obtain ⟨u6, hu6⟩ : ∃ u, u = undef := ⟨_, rfl⟩
          go_wp2_with (at_builtin; refine wpList_append_own _ rfl (.tmp 31) (.tmp 32) 33 rfl w.heap.size 25 i0 (.agg #[.int .i64 0, .string ByteArray.empty, .int .i64 0, .int .i64 0, .int .i64 0, .int .i64 0]) 6 56 Tryz.underlying33 hi hz0 hz1 hz2 rfl (by decide) _ _ _ rfl hown sa sn sc sx rfl XL.out CC.out OO.out (by unfold maxLen; omega) (by omega) hb.size ?_; intro v1 w2 hown1 hgrow1 hnil1; have hb1 := hb.grown hgrow1 hb.size (fun x e => (hown.lt x e).1); clear hown hgrow1 hnil1 hb)
          go_roundw
          case rel => exact ⟨q + 1, by omega, by go_num, by rw [hE.out, hF.out]; exact hown1, hb1⟩
          case measure => simp [intOf]; omega
        · obtain rfl : q = k := by omega
          have hlt5 : ¬ (q : Int) < (q : Int) := by omega
          rw [List.take_of_length_le (by rw [HL.out]; exact Nat.le_refl _)] at hown
          clear H HS HX O0
          go_wp2_with fail
          go_ret
          exact ⟨_, rfl, hown, hb⟩
end Go.Proofs.YtliebicnejbheabGreatDoor
