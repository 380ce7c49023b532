/- Chapter 9: the mathematics: the alone bound, the queue bound, exchanges of neighbors, local orders. -/
import Derived.Test.YtdleidlmjliapaaLkY
import Derived.Test.YtdleidlmjliapaaLeM
namespace Go.Proofs.Ytdleidlmjliapaa
set_option linter.unusedVariables false
set_option linter.unusedSimpArgs false

/-- The delay of one alone. -/
def al1 (h : Bool) (m : Int) (v : TArrival) : Int := v.x3 * (max (if (v.x1 == h) = true then 0 + m else 0) v.x2 - v.x2)
theorem dly_one (v : TArrival) (h : Bool) (m : Int) : delL [v] (lks [v] m h [0]) = al1 h m v := by
  simp [lks, lkSt, lkStep, delL, wgt, atA, al1]
theorem goodAs_one {v : TArrival} (hg : goodA v) : goodAs [v] := by
  refine ⟨by simp, fun k hk => ?_⟩
  obtain rfl : k = 0 := by simp at hk; omega
  exact ⟨hg, fun h => absurd h (by omega)⟩
theorem ord_single {v : TArrival} (hg : goodA v) : OrdA [v] [0] := by
  refine ⟨goodAs_one hg, rfl, fun p hp => ?_⟩
  obtain rfl : p = 0 := by simp at hp; omega
  refine ⟨by unfold inA; simp, by simp, fun k hk hx hb => ?_⟩
  obtain rfl : k = 0 := by simp at hk; omega
  exact absurd hb (bef_irr _)
theorem delay_one {v : TArrival} (hg : goodA v) (h : Bool) {m : Int} (hm : 1 ≤ m ∧ m ≤ 60) : DelayA [v] h m [0] (al1 h m v) true := by
  refine ⟨lks [v] m h [0], ⟨fun _ => ⟨rfl, rfl⟩, fun e => ?_⟩, (dly_one v h m).symm⟩
  rw [(gO_iff _ _ _).2 ⟨ord_single hg, hm⟩] at e
  cases e
theorem al1_bd {v : TArrival} (hg : goodA v) (h : Bool) {m : Int} (hm : 1 ≤ m ∧ m ≤ 60) : 0 ≤ al1 h m v ∧ al1 h m v ≤ 96471 := by
  unfold al1
  refine mul_bd hg.2.2 ?_
  have := hg.2.1
  split <;> omega
/-- The alone bound of the first k. -/
def alS (vs : List TArrival) (h : Bool) (m : Int) (k : Nat) : Int := ((vs.take k).map (al1 h m)).sum
theorem alS_snoc {vs : List TArrival} (h : Bool) (m : Int) {k : Nat} (hk : k < vs.length) : alS vs h m (k + 1) = alS vs h m k + al1 h m (vs.getD k noArrival) := by
  unfold alS; rw [takeS_snoc noArrival hk, List.map_append, List.sum_append]; simp
theorem alS_bd {vs : List TArrival} (hg : goodAs vs) (h : Bool) {m : Int} (hm : 1 ≤ m ∧ m ≤ 60) : ∀ k, k ≤ vs.length → 0 ≤ alS vs h m k ∧ alS vs h m k ≤ 96471 * (k : Int)
  | 0, _ => by simp [alS]
  | k + 1, hk => by
    have h1 := alS_bd hg h hm k (by omega)
    have h2 := al1_bd (hg.2 k (by omega)).1 h hm
    rw [alS_snoc h m (by omega)]
    push_cast
    omega

/-- One vessel more of the queue: when the lock is free, the sum of the waits, the least weight. -/
def quStep (vs : List TArrival) (m : Int) (s : Int × Int × Int) (i : Int) : Int × Int × Int :=
  (max s.1 (atA vs i).x2 + m, s.2.1 + (max s.1 (atA vs i).x2 - (atA vs i).x2), min s.2.2 (atA vs i).x3)
def quSt (vs : List TArrival) (m : Int) (os : List Int) : Int × Int × Int := os.foldl (quStep vs m) (0, 0, 9)
def quL (vs : List TArrival) (m : Int) (os : List Int) : Int := (quSt vs m os).2.2 * (quSt vs m os).2.1
theorem quSt_take (vs : List TArrival) (m : Int) {os : List Int} {k : Nat} (hk : k < os.length) : quSt vs m (os.take (k + 1)) = quStep vs m (quSt vs m (os.take k)) (os.getD k 0) := by
  rw [take_snoc hk]; unfold quSt; rw [List.foldl_append]; rfl
theorem quSt_bd {vs : List TArrival} {m : Int} {os : List Int} (hm : 1 ≤ m ∧ m ≤ 60) (hv : ∀ p, p < os.length → goodA (atA vs (os.getD p 0))) : ∀ k, k ≤ os.length →
    (0 ≤ (quSt vs m (os.take k)).1 ∧ (quSt vs m (os.take k)).1 ≤ 9999 + 60 * (k : Int)) ∧ (0 ≤ (quSt vs m (os.take k)).2.1 ∧ (quSt vs m (os.take k)).2.1 ≤ (9999 + 60 * (os.length : Int)) * (k : Int)) ∧ (1 ≤ (quSt vs m (os.take k)).2.2 ∧ (quSt vs m (os.take k)).2.2 ≤ 9)
  | 0, _ => by simp [quSt]
  | k + 1, hk => by
    obtain ⟨h1, h2, h3⟩ := quSt_bd hm hv k (by omega)
    have hg := hv k (by omega)
    obtain ⟨-, hg2, hg3⟩ := hg
    rw [quSt_take vs m (by omega), quStep]
    dsimp only
    have e : (9999 + 60 * (os.length : Int)) * ((k + 1 : Nat) : Int) = (9999 + 60 * (os.length : Int)) * (k : Int) + (9999 + 60 * (os.length : Int)) := by
      push_cast; rw [Int.mul_add, Int.mul_one]
    rw [e]
    push_cast
    omega

/-- A sum over the first k numbers. -/
def sm (f : Nat → Int) : Nat → Int
  | 0 => 0
  | k + 1 => sm f k + f k
theorem sm_le {f g : Nat → Int} : ∀ k, (∀ j, j < k → f j ≤ g j) → sm f k ≤ sm g k
  | 0, _ => Int.le_refl _
  | k + 1, h => by
    have h1 := sm_le k (fun j hj => h j (by omega))
    have h2 := h k (by omega)
    unfold sm; omega
theorem sm_sub (f g : Nat → Int) : ∀ k, sm (fun j => f j - g j) k = sm f k - sm g k
  | 0 => by simp [sm]
  | k + 1 => by
    have := sm_sub f g k
    unfold sm; omega
theorem sm_mul (c : Int) (f : Nat → Int) : ∀ k, sm (fun j => c * f j) k = c * sm f k
  | 0 => by simp [sm]
  | k + 1 => by
    have := sm_mul c f k
    unfold sm; rw [this, Int.mul_add]
theorem sm_nonneg {f : Nat → Int} : ∀ k, (∀ j, j < k → 0 ≤ f j) → 0 ≤ sm f k
  | 0, _ => Int.le_refl _
  | k + 1, h => by
    have h1 := sm_nonneg k (fun j hj => h j (by omega))
    have h2 := h k (by omega)
    unfold sm; omega
theorem sm_map (f : Int → Int) (os : List Int) : ∀ k, k ≤ os.length → sm (fun j => f (os.getD j 0)) k = ((os.take k).map f).sum
  | 0, _ => by simp [sm]
  | k + 1, h => by
    rw [take_snoc (by omega), List.map_append, List.sum_append, ← sm_map f os k (by omega)]
    simp [sm]
/-- Both are all indices: their sums are one. -/
theorem sum_all {n : Nat} {f : Int → Int} {l m : List Int} (hl : l.Nodup) (hm : m.Nodup) (kl : l.length = n) (km : m.length = n) (il : ∀ z ∈ l, inA n z) (im : ∀ z ∈ m, inA n z) (hf : ∀ z, inA n z → 0 ≤ f z) : (l.map f).sum = (m.map f).sum := by
  have e : ∀ {m : List Int}, m.Nodup → m.length = n → (∀ z ∈ m, inA n z) → ∀ z, inA n z → z ∈ m := fun {m} h1 h2 h3 z hz => by
    have hc : ((z.toNat : Nat) : Int) = z := by unfold inA at hz; omega
    rw [← hc]; exact all_in h1 h2 h3 (by unfold inA at hz; omega)
  have h1 := sum_sub f l m hl (fun x hx => e hm km im x (il x hx)) (fun x hx => hf x (im x hx))
  have h2 := sum_sub f m l hm (fun x hx => e hl kl il x (im x hx)) (fun x hx => hf x (il x hx))
  omega
theorem OrdA.nodup {vs : List TArrival} {O : List Int} (h : OrdA vs O) : O.Nodup := nodup_getD (fun p hp => (h.2.2 p hp).2.1)
theorem OrdA.mem {vs : List TArrival} {O : List Int} (h : OrdA vs O) : ∀ z ∈ O, inA vs.length z := fun z hz => by
  obtain ⟨q, hq, e⟩ := List.getElem_of_mem hz
  have := h.inn hq
  rw [List.getD_eq_getElem?_getD, List.getElem?_eq_getElem hq] at this
  exact e ▸ this
theorem FirstA.nodup {vs : List TArrival} {n : Nat} {os : List Int} (h : FirstA vs n os) : os.Nodup := h.ord.imp (fun {a b} hb e => by subst e; exact bef_irr _ hb)
theorem FirstA.inn {vs : List TArrival} {n : Nat} {os : List Int} (h : FirstA vs n os) {p : Nat} (hp : p < os.length) : inA n (os.getD p 0) := h.mem _ (getD_mem hp)
theorem FirstA.lt {vs : List TArrival} {n : Nat} {os : List Int} (h : FirstA vs n os) {p q : Nat} (hp : p < q) (hq : q < os.length) : befI vs (os.getD p 0) (os.getD q 0) := by
  have := (List.pairwise_iff_getElem.1 h.ord) p q (by omega) hq hp
  rw [List.getD_eq_getElem?_getD, List.getElem?_eq_getElem (by omega), List.getD_eq_getElem?_getD, List.getElem?_eq_getElem hq]
  exact this
/-- The order in which they come is an order. -/
theorem first_ord {vs : List TArrival} (hg : goodAs vs) {os : List Int} (h : FirstA vs vs.length os) : OrdA vs os := by
  refine ⟨hg, h.len, fun p hp => ⟨h.inn hp, fun hm => ?_, fun k hk hx hb => ?_⟩⟩
  · obtain ⟨q, hq, _, e⟩ := take_mem hm
    have := h.lt hq hp
    rw [e] at this
    exact bef_irr _ this
  · obtain ⟨q, hq, e⟩ := List.getElem_of_mem (h.all hk)
    have e' : os.getD q 0 = (k : Int) := by rw [List.getD_eq_getElem?_getD, List.getElem?_eq_getElem hq]; exact e
    rcases Nat.lt_trichotomy q p with h1 | h1 | h1
    · rw [← e']; exact mem_take_getD h1 (by omega)
    · exfalso
      subst h1
      rw [e', atA_cast] at hb
      exact bef_irr _ hb
    · exfalso
      have := h.lt h1 hq
      unfold befI at this
      rw [e', atA_cast] at this
      exact bef_asym this hb
/-- How the lockages follow each other. -/
structure BegK (vs : List TArrival) (m : Int) (h : Bool) (O : List Int) (k : Nat) : Prop where
  i : ((lks vs m h O).getD k nolockage).x0 = O.getD k 0
  w : ((lks vs m h O).getD k nolockage).x3 = ((lks vs m h O).getD k nolockage).x2 - (atA vs (O.getD k 0)).x2
  r : (atA vs (O.getD k 0)).x2 ≤ ((lks vs m h O).getD k nolockage).x2
  prev : ∀ j, j < k → ((lks vs m h O).getD j nolockage).x2 + m ≤ ((lks vs m h O).getD k nolockage).x2
  turn : (if ((atA vs (O.getD k 0)).x1 == h) = true then 0 + m else 0) ≤ ((lks vs m h O).getD k nolockage).x2
theorem begK {vs : List TArrival} {m : Int} {h : Bool} {O : List Int} (hm : 1 ≤ m ∧ m ≤ 60) (hv : ∀ p, p < O.length → goodA (atA vs (O.getD p 0))) {k : Nat} (hk : k < O.length) : BegK vs m h O k := by
  have hE := endK (h := h) hm hv k (by omega)
  have hB := lkB (h := h) hm hv (k := k) (by omega)
  have e := lkSt_take vs m h (os := O) (k := k) hk
  have ha : ∀ j, j ≤ k → (lks vs m h O).getD j nolockage = (lkSt vs m h (O.take (k + 1))).1.getD j nolockage := fun j hj => (lks_at (by omega) hm hv (by omega)).symm
  have hl := hB.len
  have hea := hE.each
  have hfr := hB.free.1
  have h0 : 0 < k → m ≤ (lkSt vs m h (O.take k)).2.1 := fun h0 => by
    have := hE.each 0 h0
    have := ((hB.each 0 h0).2.1).1
    omega
  have hst : k = 0 → (lkSt vs m h (O.take k)).2 = (0, h) := fun h0 => by subst h0; simp [lkSt]
  obtain ⟨s, hs⟩ : ∃ s, lkSt vs m h (O.take k) = s := ⟨_, rfl⟩
  rw [hs] at hl hea hfr h0 hst e
  obtain ⟨L, fr, hi⟩ := s
  dsimp only at hl hea hfr h0 hst e
  rw [lkStep] at e
  dsimp only at e
  rw [e] at ha
  dsimp only at ha
  have hk2 := ha k (Nat.le_refl _)
  rw [getD_appR _ _ hl] at hk2
  have hj : ∀ j, j < k → (lks vs m h O).getD j nolockage = L.getD j nolockage := fun j hj => by rw [ha j (by omega), getD_appL _ (by omega)]
  refine ⟨by rw [hk2], by rw [hk2], by rw [hk2]; dsimp only; omega, fun j hjk => ?_, ?_⟩
  · rw [hk2, hj j hjk]
    dsimp only
    have := hea j hjk
    split <;> omega
  · rw [hk2]
    dsimp only
    rcases Nat.eq_zero_or_pos k with h1 | h1
    · have := hst h1
      simp only [Prod.mk.injEq] at this
      obtain ⟨rfl, rfl⟩ := this
      split <;> omega
    · have := h0 h1
      split <;> split <;> omega
theorem delL_sm (vs : List TArrival) (L : List Tlockage) : ∀ k, k ≤ L.length → delL vs (L.take k) = sm (fun j => wgt vs (L.getD j nolockage)) k
  | 0, _ => by simp [delL, sm]
  | k + 1, h => by rw [delL_snoc (by omega), delL_sm vs L k (by omega)]; rfl
theorem dly_sm {vs : List TArrival} {m : Int} {h : Bool} {O : List Int} (hm : 1 ≤ m ∧ m ≤ 60) (ho : OrdA vs O) : dly vs m h O = sm (fun j => (atA vs (O.getD j 0)).x3 * (((lks vs m h O).getD j nolockage).x2 - (atA vs (O.getD j 0)).x2)) O.length := by
  have hv : ∀ p, p < O.length → goodA (atA vs (O.getD p 0)) := fun p hp => ho.good hp
  have hl := lks_len (h := h) hm hv
  have h1 := delL_sm vs (lks vs m h O) O.length (by omega)
  rw [← hl, List.take_length] at h1
  unfold dly
  rw [h1, hl]
  have : ∀ {f g : Nat → Int} k, (∀ j, j < k → f j = g j) → sm f k = sm g k := fun k hk => by
    have a := sm_le k (fun j hj => Int.le_of_eq (hk j hj))
    have b := sm_le k (fun j hj => Int.le_of_eq (hk j hj).symm)
    omega
  refine this _ (fun j hj => ?_)
  have hb := begK (h := h) hm hv hj
  unfold wgt
  rw [hb.i, hb.w]
/-- The alone bound is a bound. -/
theorem alone_le {vs : List TArrival} {m : Int} {h : Bool} {O : List Int} (hm : 1 ≤ m ∧ m ≤ 60) (ho : OrdA vs O) : alS vs h m vs.length ≤ dly vs m h O := by
  have hv : ∀ p, p < O.length → goodA (atA vs (O.getD p 0)) := fun p hp => ho.good hp
  rw [dly_sm hm ho]
  have h1 : sm (fun j => al1 h m (atA vs (O.getD j 0))) O.length ≤ sm (fun j => (atA vs (O.getD j 0)).x3 * (((lks vs m h O).getD j nolockage).x2 - (atA vs (O.getD j 0)).x2)) O.length := sm_le _ (fun j hj => by
    have hb := begK (h := h) hm hv hj
    have h3 := (hv j hj).2.2
    unfold al1
    refine Int.mul_le_mul_of_nonneg_left ?_ (by omega)
    have := hb.r
    have := hb.turn
    omega)
  refine Int.le_trans ?_ h1
  rw [sm_map (fun i => al1 h m (atA vs i)) O O.length (Nat.le_refl _), List.take_length]
  unfold alS
  rw [← sum_range vs (al1 h m) vs.length (Nat.le_refl _)]
  have hr : ((List.range vs.length).map (fun j : Nat => (j : Int))).Nodup := by
    rw [List.Nodup, List.pairwise_map]
    exact List.nodup_range.imp (fun {a b} hab e => hab (by omega))
  exact sum_sub _ _ O hr (fun x hx => by
    rw [List.mem_map] at hx
    obtain ⟨j, hj, rfl⟩ := hx
    exact all_in ho.nodup ho.2.1 ho.mem (List.mem_range.1 hj)) (fun x hx => by
    have h2 := ho.mem x hx
    unfold inA at h2
    exact (al1_bd (ho.1.2 x.toNat (by omega)).1 h hm).1)
/-- When the vessels of the queue begin. -/
def quB (vs : List TArrival) (m : Int) (os : List Int) (k : Nat) : Int := max (quSt vs m (os.take k)).1 (atA vs (os.getD k 0)).x2
theorem quSt_sum {vs : List TArrival} {m : Int} {os : List Int} : ∀ k, k ≤ os.length → (quSt vs m (os.take k)).2.1 = sm (fun j => quB vs m os j - (atA vs (os.getD j 0)).x2) k
  | 0, _ => by simp [quSt, sm]
  | k + 1, h => by
    rw [quSt_take vs m (by omega), quStep]
    dsimp only
    rw [quSt_sum k (by omega)]
    rfl
theorem quSt_w {vs : List TArrival} {m : Int} {os : List Int} : ∀ k, k ≤ os.length → ∀ j, j < k → (quSt vs m (os.take k)).2.2 ≤ (atA vs (os.getD j 0)).x3
  | 0, _, j, hj => absurd hj (by omega)
  | k + 1, h, j, hj => by
    rw [quSt_take vs m (by omega), quStep]
    dsimp only
    by_cases hjk : j = k
    · subst hjk; omega
    · have := quSt_w (vs := vs) (m := m) (os := os) k (by omega) j (by omega)
      omega
/-- Among the first k + 1 of an order is one that comes no earlier than the k-th of the queue. -/
theorem late_one {vs : List TArrival} {os O : List Int} (hf : FirstA vs vs.length os) (ho : OrdA vs O) {k : Nat} (hk : k < vs.length) : ∃ j, j ≤ k ∧ (atA vs (os.getD k 0)).x2 ≤ (atA vs (O.getD j 0)).x2 := by
  have hOl := ho.2.1
  have hol := hf.len
  by_cases hx : ∃ j, j ≤ k ∧ O.getD j 0 ∉ os.take k
  · obtain ⟨j, hj, hn⟩ := hx
    refine ⟨j, hj, ?_⟩
    have hin := ho.inn (p := j) (by omega)
    have hmem : O.getD j 0 ∈ os := by
      have hc : (((O.getD j 0).toNat : Nat) : Int) = O.getD j 0 := by unfold inA at hin; omega
      rw [← hc]; exact hf.all (by unfold inA at hin; omega)
    obtain ⟨q, hq, e⟩ := List.getElem_of_mem hmem
    have e' : os.getD q 0 = O.getD j 0 := by rw [List.getD_eq_getElem?_getD, List.getElem?_eq_getElem hq]; exact e
    rw [← e']
    have hqk : k ≤ q := by
      rcases Nat.lt_or_ge q k with h1 | h1
      · exact absurd (e' ▸ mem_take_getD h1 (by omega)) hn
      · exact h1
    rcases Nat.lt_or_eq_of_le hqk with h1 | rfl
    · have := hf.lt h1 hq
      unfold befI bef at this
      omega
    · exact Int.le_refl _
  · exfalso
    have hall : ∀ x ∈ O.take (k + 1), x ∈ os.take k := fun x hx2 => by
      obtain ⟨q, hq, hql, e⟩ := take_mem hx2
      by_cases hc : x ∈ os.take k
      · exact hc
      · exact absurd ⟨q, by omega, by rw [e]; exact hc⟩ hx
    have := nodup_le (O.take (k + 1)) (os.take k) (ho.nodup.sublist (List.take_sublist _ _)) hall
    rw [List.length_take, List.length_take] at this
    omega
theorem quB_le {vs : List TArrival} {m : Int} {h : Bool} {os O : List Int} (hm : 1 ≤ m ∧ m ≤ 60) (hf : FirstA vs vs.length os) (ho : OrdA vs O) : ∀ k, k < vs.length → quB vs m os k ≤ ((lks vs m h O).getD k nolockage).x2 := by
  have hv : ∀ p, p < O.length → goodA (atA vs (O.getD p 0)) := fun p hp => ho.good hp
  have hOl := ho.2.1
  have hol := hf.len
  intro k
  induction k with
  | zero =>
    intro hk
    obtain ⟨j, hj, hr⟩ := late_one hf ho hk
    obtain rfl : j = 0 := by omega
    have hb := begK (h := h) hm hv (k := 0) (by omega)
    have := hb.r
    have := (hv 0 (by omega)).2.1
    show max (quSt vs m (os.take 0)).1 _ ≤ _
    simp only [List.take_zero, quSt, List.foldl_nil]
    omega
  | succ k ih =>
    intro hk
    have ih := ih (by omega)
    obtain ⟨j, hj, hr⟩ := late_one hf ho hk
    have hb := begK (h := h) hm hv (k := k + 1) (by omega)
    have hbj := begK (h := h) hm hv (k := j) (by omega)
    have h1 := hb.prev k (by omega)
    have h2 : ((lks vs m h O).getD j nolockage).x2 ≤ ((lks vs m h O).getD (k + 1) nolockage).x2 := by
      rcases Nat.lt_or_eq_of_le hj with h3 | h3
      · have := hb.prev j h3; omega
      · rw [h3]; exact Int.le_refl _
    have h3 := hbj.r
    have e : (quSt vs m (os.take (k + 1))).1 = quB vs m os k + m := by rw [quSt_take vs m (by omega)]; rfl
    show max (quSt vs m (os.take (k + 1))).1 _ ≤ _
    rw [e]
    omega
/-- The queue bound is a bound. -/
theorem queue_le {vs : List TArrival} {m : Int} {h : Bool} {os O : List Int} (hm : 1 ≤ m ∧ m ≤ 60) (hf : FirstA vs vs.length os) (ho : OrdA vs O) : quL vs m os ≤ dly vs m h O := by
  have hv : ∀ p, p < O.length → goodA (atA vs (O.getD p 0)) := fun p hp => ho.good hp
  have hvo : ∀ p, p < os.length → goodA (atA vs (os.getD p 0)) := fun p hp => (first_ord ho.1 hf).good hp
  have hOl := ho.2.1
  have hol := hf.len
  obtain ⟨-, hs, hw⟩ := quSt_bd hm hvo os.length (Nat.le_refl _)
  have hsum := quSt_sum (vs := vs) (m := m) (os := os) os.length (Nat.le_refl _)
  have hwt := quSt_w (vs := vs) (m := m) (os := os) os.length (Nat.le_refl _)
  rw [List.take_length] at hs hw hsum hwt
  unfold quL
  generalize (quSt vs m os).2.2 = wt at hw hwt ⊢
  rw [hsum, dly_sm hm ho]
  have hr : sm (fun j => (atA vs (os.getD j 0)).x2) os.length = sm (fun j => (atA vs (O.getD j 0)).x2) O.length := by
    rw [sm_map (fun i => (atA vs i).x2) os _ (Nat.le_refl _), sm_map (fun i => (atA vs i).x2) O _ (Nat.le_refl _), List.take_length, List.take_length]
    exact sum_all hf.nodup ho.nodup hol hOl hf.mem ho.mem (fun z hz => by
      unfold inA at hz
      exact (ho.1.2 z.toNat (by omega)).1.2.1.1)
  have h1 : sm (fun j => quB vs m os j - (atA vs (os.getD j 0)).x2) os.length ≤ sm (fun j => ((lks vs m h O).getD j nolockage).x2 - (atA vs (O.getD j 0)).x2) O.length := by
    rw [sm_sub, sm_sub, hr, hol, hOl]
    have := sm_le (f := quB vs m os) (g := fun j => ((lks vs m h O).getD j nolockage).x2) vs.length (fun j hj => quB_le hm hf ho j hj)
    omega
  have h2 := Int.mul_le_mul_of_nonneg_left h1 (show 0 ≤ wt by omega)
  refine Int.le_trans h2 ?_
  rw [← sm_mul]
  refine sm_le _ (fun j hj => ?_)
  have hb := begK (h := h) hm hv hj
  refine Int.mul_le_mul_of_nonneg_right ?_ (by have := hb.r; omega)
  have hin := ho.inn hj
  have hc : (((O.getD j 0).toNat : Nat) : Int) = O.getD j 0 := by unfold inA at hin; omega
  have hmem : O.getD j 0 ∈ os := by rw [← hc]; exact hf.all (by unfold inA at hin; omega)
  obtain ⟨q, hq, e⟩ := List.getElem_of_mem hmem
  have e' : os.getD q 0 = O.getD j 0 := by rw [List.getD_eq_getElem?_getD, List.getElem?_eq_getElem hq]; exact e
  rw [← e']
  exact hwt q hq
/-- Each order is among those that the search goes through. -/
theorem ord_exts {vs : List TArrival} {O : List Int} (ho : OrdA vs O) : ∀ (f : Nat) (B R : List Int), B ++ R = O → R.length = f → O ∈ exts vs f B
  | 0, B, R, e, hl => by
    obtain rfl := List.length_eq_zero_iff.1 hl
    rw [List.append_nil] at e
    rw [← e, exts]; simp
  | f + 1, B, R, e, hl => by
    obtain ⟨x, R, rfl⟩ : ∃ x t, R = x :: t := by cases R with
      | nil => simp at hl
      | cons x t => exact ⟨x, t, rfl⟩
    have hp : B.length < O.length := by rw [← e]; simp
    have hx : O.getD B.length 0 = x := by rw [← e, List.getD_eq_getElem?_getD, List.getElem?_append_right (Nat.le_refl _)]; simp
    have hB : O.take B.length = B := by rw [← e, List.take_append_of_le_length (Nat.le_refl _), List.take_length]
    have hok := ho.2.2 _ hp
    unfold okO at hok
    rw [hx, hB] at hok
    obtain ⟨hin, hnx⟩ := hok
    have hc : ((x.toNat : Nat) : Int) = x := by unfold inA at hin; omega
    rw [exts, List.mem_flatMap]
    refine ⟨x.toNat, List.mem_range.2 (by unfold inA at hin; omega), ?_⟩
    rw [hc, if_pos ((nxA_iff _ _ _).2 hnx)]
    exact ord_exts ho f (B ++ [x]) R (by rw [List.append_assoc]; exact e) (by simpa using hl)
theorem fm_least (D : List Int → Int) : ∀ (L : List (List Int)) (acc : List Int × Int), ∀ O ∈ L, (fm D acc L).2 ≤ D O
  | [], _, O, h => by cases h
  | P :: t, acc, O, h => by
    have e1 : fm D acc (P :: t) = fm D (fmS D acc P) t := rfl
    rw [e1]
    rcases List.mem_cons.1 h with rfl | h
    · have h2 := fm_le D t (fmS D acc O)
      have h3 : (fmS D acc O).2 ≤ D O := by unfold fmS; split <;> (first | omega | (dsimp only; omega))
      omega
    · exact fm_least D t _ O h
/-- No order has a smaller delay than the best one. -/
theorem best_le {vs : List TArrival} {m : Int} {h : Bool} {O : List Int} (ho : OrdA vs O) : (bestO vs m h).2 ≤ dly vs m h O :=
  fm_least _ _ _ O (ord_exts ho vs.length [] O rfl ho.2.1)

/-- An exchange of neighbors. -/
def swp (os : List Int) (k : Nat) : List Int := (os.set k (os.getD (k + 1) 0)).set (k + 1) (os.getD k 0)
theorem swp_len (os : List Int) (k : Nat) : (swp os k).length = os.length := by unfold swp; simp
theorem swp_swp {os : List Int} {k : Nat} (hk : k + 1 < os.length) : swp (swp os k) k = os := by
  apply List.ext_getElem
  · simp [swp]
  · intro j h1 h2
    simp only [swp, List.getElem_set, List.getD_eq_getElem?_getD, List.length_set, List.getElem?_set]
    by_cases h3 : k + 1 = j
    · subst h3
      simp [List.getElem?_eq_getElem, hk, show k < os.length by omega]
    · by_cases h4 : k = j
      · subst h4
        simp [List.getElem?_eq_getElem, hk, show k < os.length by omega]
      · simp [h3, h4]
/-- What an exchange gains. -/
noncomputable def gnA (vs : List TArrival) (m : Int) (h : Bool) (os : List Int) (k : Nat) : Int := if oA vs (swp os k) = true then dly vs m h os - dly vs m h (swp os k) else 0
/-- The best exchange of the first k. -/
noncomputable def bsK (vs : List TArrival) (m : Int) (h : Bool) (os : List Int) : Nat → Int × Int
  | 0 => (0, 0)
  | k + 1 => if (bsK vs m h os k).2 < gnA vs m h os k then ((k : Int), gnA vs m h os k) else bsK vs m h os k
theorem bsK_is (vs : List TArrival) (m : Int) (h : Bool) (os : List Int) : ∀ k, 0 ≤ (bsK vs m h os k).2 ∧ (∀ j, j < k → gnA vs m h os j ≤ (bsK vs m h os k).2) ∧ (0 < (bsK vs m h os k).2 → ∃ j : Nat, j < k ∧ (bsK vs m h os k).1 = (j : Int) ∧ (bsK vs m h os k).2 = gnA vs m h os j) ∧ (¬ 0 < (bsK vs m h os k).2 → bsK vs m h os k = (0, 0))
  | 0 => ⟨Int.le_refl _, fun j hj => absurd hj (by omega), fun h => absurd h (by simp [bsK]), fun _ => rfl⟩
  | k + 1 => by
    obtain ⟨h1, h2, h3, h4⟩ := bsK_is vs m h os k
    rw [bsK]
    split
    · next hlt =>
      dsimp only
      refine ⟨by omega, fun j hj => ?_, fun _ => ⟨k, by omega, rfl, rfl⟩, fun hn => absurd (show 0 < gnA vs m h os k by omega) hn⟩
      rcases Nat.lt_succ_iff_lt_or_eq.1 hj with h5 | rfl
      · have := h2 j h5; omega
      · exact Int.le_refl _
    · next hlt =>
      refine ⟨h1, fun j hj => ?_, fun hp => ?_, h4⟩
      · rcases Nat.lt_succ_iff_lt_or_eq.1 hj with h5 | rfl
        · exact h2 j h5
        · omega
      · obtain ⟨j, hj, e1, e2⟩ := h3 hp
        exact ⟨j, by omega, e1, e2⟩
/-- The best exchange of all. -/
noncomputable def bsA (vs : List TArrival) (m : Int) (h : Bool) (os : List Int) : Int × Int := bsK vs m h os (os.length - 1)
theorem gnA_pos {vs : List TArrival} {m : Int} {h : Bool} {os : List Int} {k : Nat} (hp : 0 < gnA vs m h os k) : OrdA vs (swp os k) ∧ gnA vs m h os k = dly vs m h os - dly vs m h (swp os k) := by
  unfold gnA at hp ⊢
  split at hp
  · next e => rw [if_pos e]; exact ⟨(oA_iff _ _).1 e, rfl⟩
  · omega
/-- The search by exchanges. -/
noncomputable def loc (vs : List TArrival) (m : Int) (h : Bool) : Nat → List Int → List Int
  | 0, os => os
  | f + 1, os => if 0 < (bsA vs m h os).2 then loc vs m h f (swp os (bsA vs m h os).1.toNat) else os
theorem bsA_next {vs : List TArrival} {m : Int} {h : Bool} {os : List Int} (hm : 1 ≤ m ∧ m ≤ 60) (ho : OrdA vs os) (hp : 0 < (bsA vs m h os).2) :
    ∃ j : Nat, j + 1 < os.length ∧ (bsA vs m h os).1 = (j : Int) ∧ OrdA vs (swp os j) ∧ 0 ≤ dly vs m h (swp os j) ∧ dly vs m h (swp os j) < dly vs m h os := by
  obtain ⟨-, -, h3, -⟩ := bsK_is vs m h os (os.length - 1)
  obtain ⟨j, hj, e1, e2⟩ := h3 hp
  unfold bsA at hp
  rw [e2] at hp
  obtain ⟨h5, h6⟩ := gnA_pos hp
  have := dly_bd h hm h5
  exact ⟨j, by omega, e1, h5, this.1, by omega⟩
theorem loc_more {vs : List TArrival} {m : Int} {h : Bool} (hm : 1 ≤ m ∧ m ≤ 60) : ∀ (f : Nat) (os : List Int), OrdA vs os → dly vs m h os ≤ (f : Int) → ∀ d, loc vs m h (f + d) os = loc vs m h f os
  | 0, os, ho, hf, d => by
    cases d with
    | zero => rfl
    | succ d =>
      have hn : ¬ 0 < (bsA vs m h os).2 := fun hp => by
        obtain ⟨j, h1, h2, h3, h4, h5⟩ := bsA_next hm ho hp
        have : ((0 : Nat) : Int) = 0 := rfl
        omega
      rw [Nat.zero_add]
      show (if 0 < (bsA vs m h os).2 then loc vs m h d (swp os (bsA vs m h os).1.toNat) else os) = os
      rw [if_neg hn]
  | f + 1, os, ho, hf, d => by
    rw [show f + 1 + d = (f + d) + 1 by omega, loc, loc]
    split
    · next hp =>
      obtain ⟨j, h1, h2, h3, h4, h5⟩ := bsA_next hm ho hp
      rw [h2, Int.toNat_natCast]
      exact loc_more hm f _ h3 (by push_cast at hf; omega) d
    · rfl
/-- Where the search ends. -/
noncomputable def locO (vs : List TArrival) (m : Int) (h : Bool) (os : List Int) : List Int := loc vs m h (dly vs m h os).toNat os
theorem locO_next {vs : List TArrival} {m : Int} {h : Bool} {os : List Int} (hm : 1 ≤ m ∧ m ≤ 60) (ho : OrdA vs os) (hp : 0 < (bsA vs m h os).2) {j : Nat} (hj : (bsA vs m h os).1 = (j : Int)) : locO vs m h (swp os j) = locO vs m h os := by
  obtain ⟨j', h1, h2, h3, h4, h5⟩ := bsA_next hm ho hp
  obtain rfl : j = j' := by omega
  unfold locO
  obtain ⟨f, hf⟩ : ∃ f, (dly vs m h os).toNat = f + 1 := ⟨(dly vs m h os).toNat - 1, by omega⟩
  rw [hf, loc, if_pos hp, h2, Int.toNat_natCast]
  obtain ⟨d, hd⟩ : ∃ d, f = (dly vs m h (swp os j)).toNat + d := ⟨f - (dly vs m h (swp os j)).toNat, by omega⟩
  rw [hd]
  exact (loc_more hm _ _ h3 (by omega) d).symm
theorem locO_end {vs : List TArrival} {m : Int} {h : Bool} {os : List Int} (hp : ¬ 0 < (bsA vs m h os).2) : locO vs m h os = os := by
  unfold locO
  cases (dly vs m h os).toNat with
  | zero => rfl
  | succ f => rw [loc, if_neg hp]
/-- A local order is one, not worse than where it began, and no exchange makes it better. -/
theorem locO_is {vs : List TArrival} {m : Int} {h : Bool} (hm : 1 ≤ m ∧ m ≤ 60) : ∀ (f : Nat) (os : List Int), OrdA vs os → (dly vs m h os).toNat = f →
    OrdA vs (locO vs m h os) ∧ dly vs m h (locO vs m h os) ≤ dly vs m h os ∧ ∀ k, k + 1 < (locO vs m h os).length → gnA vs m h (locO vs m h os) k ≤ 0 := by
  intro f
  induction f using Nat.strongRecOn with
  | _ f ih =>
    intro os ho hf
    by_cases hp : 0 < (bsA vs m h os).2
    · obtain ⟨j, h1, h2, h3, h4, h5⟩ := bsA_next hm ho hp
      have h6 := ih (dly vs m h (swp os j)).toNat (by omega) (swp os j) h3 rfl
      rw [locO_next hm ho hp h2] at h6
      exact ⟨h6.1, by omega, h6.2.2⟩
    · rw [locO_end hp]
      refine ⟨ho, Int.le_refl _, fun k hk => ?_⟩
      have := (bsK_is vs m h os (os.length - 1)).2.1 k (by omega)
      unfold bsA at hp
      omega
end Go.Proofs.Ytdleidlmjliapaa
