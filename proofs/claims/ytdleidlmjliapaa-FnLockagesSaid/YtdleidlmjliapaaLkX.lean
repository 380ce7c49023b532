/- Chapter 8: all orders one after the other, the first of the least, the order in which they come. -/
import Derived.Test.YtdleidlmjliapaaLkM
namespace Go.Proofs.Ytdleidlmjliapaa
set_option linter.unusedVariables false

/-- All full orders that continue one, in lexicographic order. -/
noncomputable def exts (vs : List TArrival) : Nat → List Int → List (List Int)
  | 0, B => [B]
  | f + 1, B => (List.range vs.length).flatMap fun i : Nat => if nxA vs B (i : Int) = true then exts vs f (B ++ [(i : Int)]) else []
/-- All ways to take two queues from their fronts. -/
def mgs : Nat → List Int → List Int → List Int → List (List Int)
  | 0, t, a, b => [t ++ a ++ b]
  | f + 1, t, [], b => [t ++ [] ++ b]
  | f + 1, t, x :: a, [] => [t ++ (x :: a) ++ []]
  | f + 1, t, x :: a, y :: b => if y < x then mgs f (t ++ [y]) b (x :: a) ++ mgs f (t ++ [x]) (y :: b) a else mgs f (t ++ [x]) a (y :: b) ++ mgs f (t ++ [y]) (x :: a) b
theorem mgs_ne : ∀ (f : Nat) (t a b : List Int), mgs f t a b ≠ []
  | 0, t, a, b => by simp [mgs]
  | f + 1, t, [], b => by simp [mgs]
  | f + 1, t, x :: a, [] => by simp [mgs]
  | f + 1, t, x :: a, y :: b => by
    rw [mgs]
    split
    · intro h; exact mgs_ne f _ _ _ (List.append_eq_nil_iff.1 h).1
    · intro h; exact mgs_ne f _ _ _ (List.append_eq_nil_iff.1 h).1
def befI (vs : List TArrival) (i j : Int) : Prop := bef (atA vs i) (atA vs j)
/-- What has begun and the two queues behind it. -/
structure QQ (vs : List TArrival) (B a b : List Int) : Prop where
  good : goodAs vs
  u : ∃ u : Bool, (∀ z ∈ a, inA vs.length z ∧ (atA vs z).x1 = u) ∧ (∀ z ∈ b, inA vs.length z ∧ (atA vs z).x1 = !u)
  oa : a.Pairwise (befI vs)
  ob : b.Pairwise (befI vs)
  all : ∀ k, k < vs.length → (k : Int) ∈ B ∨ (k : Int) ∈ a ∨ (k : Int) ∈ b
  da : ∀ z ∈ a, z ∉ B
  db : ∀ z ∈ b, z ∉ B
theorem QQ.swap {vs : List TArrival} {B a b : List Int} (h : QQ vs B a b) : QQ vs B b a := by
  obtain ⟨u, h1, h2⟩ := h.u
  exact ⟨h.good, ⟨!u, h2, by simpa using h1⟩, h.ob, h.oa, fun k hk => (h.all k hk).imp id Or.symm, h.db, h.da⟩
theorem QQ.head {vs : List TArrival} {B a b : List Int} {x : Int} (h : QQ vs B (x :: a) b) : nextA vs B x := by
  obtain ⟨u, h1, h2⟩ := h.u
  refine ⟨h.da x (by simp), fun k hk hx hb => ?_⟩
  rcases h.all k hk with h3 | h3 | h3
  · exact h3
  · exfalso
    rcases List.mem_cons.1 h3 with h4 | h4
    · rw [← h4, atA_cast] at hb; exact bef_irr _ hb
    · have := (List.pairwise_cons.1 h.oa).1 _ h4
      unfold befI at this
      rw [atA_cast] at this
      exact bef_asym this hb
  · exfalso
    have h5 := (h2 _ h3).2
    have h6 := (h1 x (by simp)).2
    rw [atA_cast] at h5
    rw [h5, h6] at hx
    cases u <;> simp at hx
theorem QQ.step {vs : List TArrival} {B a b : List Int} {x : Int} (h : QQ vs B (x :: a) b) : QQ vs (B ++ [x]) a b := by
  obtain ⟨u, h1, h2⟩ := h.u
  refine ⟨h.good, ⟨u, fun z hz => h1 z (by simp [hz]), h2⟩, (List.pairwise_cons.1 h.oa).2, h.ob, fun k hk => ?_, fun z hz hm => ?_, fun z hz hm => ?_⟩
  · rcases h.all k hk with h3 | h3 | h3
    · exact .inl (by simp [h3])
    · rcases List.mem_cons.1 h3 with h4 | h4
      · exact .inl (by simp [h4])
      · exact .inr (.inl h4)
    · exact .inr (.inr h3)
  · rcases List.mem_append.1 hm with h3 | h3
    · exact h.da z (by simp [hz]) h3
    · have h4 : z = x := by simpa using h3
      subst h4
      exact bef_irr _ ((List.pairwise_cons.1 h.oa).1 _ hz)
  · rcases List.mem_append.1 hm with h3 | h3
    · exact h.db z hz h3
    · have h4 : z = x := by simpa using h3
      subst h4
      have h5 := (h1 z (by simp)).2
      have h6 := (h2 z hz).2
      rw [h5] at h6
      cases u <;> simp at h6
theorem QQ.only {vs : List TArrival} {B a b : List Int} (h : QQ vs B a b) {k : Nat} (hk : k < vs.length) (hn : nextA vs B (k : Int)) : (∃ t, a = (k : Int) :: t) ∨ ∃ t, b = (k : Int) :: t := by
  have one : ∀ {a b : List Int}, QQ vs B a b → (k : Int) ∈ a → ∃ t, a = (k : Int) :: t := by
    intro a b h hm
    obtain ⟨u, h1, h2⟩ := h.u
    cases a with
    | nil => cases hm
    | cons x t =>
      rcases List.mem_cons.1 hm with h4 | h4
      · exact ⟨t, by rw [h4]⟩
      · exfalso
        have h5 := (List.pairwise_cons.1 h.oa).1 _ h4
        have hx := h1 x (by simp)
        have hc : ((x.toNat : Nat) : Int) = x := by have := hx.1; unfold inA at this; omega
        have h6 := hn.2 x.toNat (by have := hx.1; unfold inA at this; omega) (by
          rw [← atA_cast, hc, hx.2, (h1 _ hm).2]) (by rw [← atA_cast, hc]; exact h5)
        rw [hc] at h6
        exact h.da x (by simp) h6
  rcases h.all k hk with h3 | h3 | h3
  · exact absurd h3 hn.1
  · exact .inl (one h h3)
  · exact .inr (one h.swap h3)
theorem flat1 {α : Type} (F : Nat → List α) (x : Nat) : ∀ n, ((List.range n).flatMap fun i => if i = x then F i else []) = if x < n then F x else []
  | 0 => by simp
  | n + 1 => by
    rw [List.range_succ, List.flatMap_append, flat1 F x n]
    by_cases h : n = x
    · subst h; simp
    · by_cases h2 : x < n
      · rw [if_pos h2, if_pos (by omega)]; simp [h]
      · rw [if_neg h2, if_neg (by omega)]; simp [h]
theorem flat2 {α : Type} (F : Nat → List α) {x y : Nat} (hxy : x < y) : ∀ n, ((List.range n).flatMap fun i => if i = x ∨ i = y then F i else []) = (if x < n then F x else []) ++ (if y < n then F y else [])
  | 0 => by simp
  | n + 1 => by
    rw [List.range_succ, List.flatMap_append, flat2 F hxy n]
    by_cases h : n = x
    · subst h
      rw [if_neg (by omega), if_neg (by omega), if_pos (by omega), if_neg (by omega)]; simp
    · by_cases h3 : n = y
      · subst h3
        rw [if_pos hxy, if_neg (by omega), if_pos (by omega), if_pos (by omega)]; simp
      · rw [show ((fun i => if i = x ∨ i = y then F i else []) : Nat → List α) = fun i => if i = x ∨ i = y then F i else [] from rfl]
        simp only [List.flatMap_cons, List.flatMap_nil, List.append_nil, h, h3, or_self, if_false]
        congr 1
        · by_cases h4 : x < n
          · rw [if_pos h4, if_pos (by omega)]
          · rw [if_neg h4, if_neg (by omega)]
        · by_cases h4 : y < n
          · rw [if_pos h4, if_pos (by omega)]
          · rw [if_neg h4, if_neg (by omega)]
theorem exts_one {vs : List TArrival} : ∀ (b B : List Int), QQ vs B [] b → exts vs b.length B = [B ++ b]
  | [], B, _ => by simp [exts]
  | y :: b, B, h => by
    have hs := h.swap
    obtain ⟨u, h1, h2⟩ := h.u
    have hy := (h2 y (by simp)).1
    unfold inA at hy
    have hc : ((y.toNat : Nat) : Int) = y := by omega
    have ih := exts_one b (B ++ [y]) hs.step.swap
    rw [List.length_cons, exts]
    have : (fun i : Nat => if nxA vs B (i : Int) = true then exts vs b.length (B ++ [(i : Int)]) else []) = fun i : Nat => if nxA vs B (i : Int) = true then exts vs b.length (B ++ [(i : Int)]) else [] := rfl
    have hp : ∀ i, i < vs.length → (nxA vs B (i : Int) = true ↔ i = y.toNat) := fun i hi => by
      rw [nxA_iff]
      constructor
      · intro hn
        rcases h.only hi hn with ⟨t, e⟩ | ⟨t, e⟩
        · cases e
        · injection e with e1 _; omega
      · rintro rfl; rw [hc]; exact hs.head
    have e : (List.range vs.length).flatMap (fun i : Nat => if nxA vs B (i : Int) = true then exts vs b.length (B ++ [(i : Int)]) else []) = (List.range vs.length).flatMap fun i => if i = y.toNat then exts vs b.length (B ++ [(i : Int)]) else [] := by
      rw [List.flatMap_def, List.flatMap_def]
      congr 1
      refine List.map_congr_left fun i hi => ?_
      have := hp i (List.mem_range.1 hi)
      by_cases h5 : i = y.toNat
      · rw [if_pos h5, if_pos (this.2 h5)]
      · rw [if_neg h5, if_neg (fun g => h5 (this.1 g))]
    rw [e, flat1, if_pos (by omega), hc, ih]
    simp
theorem exts_two {vs : List TArrival} {B a b : List Int} {x y : Int} (h : QQ vs B (x :: a) (y :: b)) (f : Nat) (hxy : x < y) :
    exts vs (f + 1) B = exts vs f (B ++ [x]) ++ exts vs f (B ++ [y]) := by
  obtain ⟨u, h1, h2⟩ := h.u
  have hx := (h1 x (by simp)).1
  have hy := (h2 y (by simp)).1
  unfold inA at hx hy
  have hcx : ((x.toNat : Nat) : Int) = x := by omega
  have hcy : ((y.toNat : Nat) : Int) = y := by omega
  rw [exts]
  have hp : ∀ i, i < vs.length → (nxA vs B (i : Int) = true ↔ i = x.toNat ∨ i = y.toNat) := fun i hi => by
    rw [nxA_iff]
    constructor
    · intro hn
      rcases h.only hi hn with ⟨t, e⟩ | ⟨t, e⟩
      · injection e with e1 _; left; omega
      · injection e with e1 _; right; omega
    · rintro (rfl | rfl)
      · rw [hcx]; exact h.head
      · rw [hcy]; exact h.swap.head
  have e : (List.range vs.length).flatMap (fun i : Nat => if nxA vs B (i : Int) = true then exts vs f (B ++ [(i : Int)]) else []) = (List.range vs.length).flatMap fun i => if i = x.toNat ∨ i = y.toNat then exts vs f (B ++ [(i : Int)]) else [] := by
    rw [List.flatMap_def, List.flatMap_def]
    congr 1
    refine List.map_congr_left fun i hi => ?_
    have := hp i (List.mem_range.1 hi)
    by_cases h5 : i = x.toNat ∨ i = y.toNat
    · rw [if_pos h5, if_pos (this.2 h5)]
    · rw [if_neg h5, if_neg (fun g => h5 (this.1 g))]
  rw [e, flat2 _ (by omega), if_pos (by omega), if_pos (by omega), hcx, hcy]
/-- Both give the same orders, one after the other. -/
theorem exts_mgs {vs : List TArrival} : ∀ (f : Nat) (B a b : List Int), QQ vs B a b → a.length + b.length = f → exts vs f B = mgs f B a b
  | 0, B, a, b, h, hl => by
    obtain rfl : a = [] := List.eq_nil_of_length_eq_zero (by omega)
    obtain rfl : b = [] := List.eq_nil_of_length_eq_zero (by omega)
    simp [exts, mgs]
  | f + 1, B, [], b, h, hl => by
    rw [mgs, show f + 1 = b.length by simpa using hl.symm, exts_one b B h]
    simp
  | f + 1, B, x :: a, [], h, hl => by
    rw [mgs, show f + 1 = (x :: a).length by simpa using hl.symm, exts_one _ B h.swap]
    simp
  | f + 1, B, x :: a, y :: b, h, hl => by
    have hne : x ≠ y := fun e => by
      obtain ⟨u, h1, h2⟩ := h.u
      have h3 := (h1 x (by simp)).2
      have h4 := (h2 y (by simp)).2
      rw [← e, h3] at h4
      cases u <;> simp at h4
    rw [mgs]
    simp only [List.length_cons] at hl
    by_cases hyx : y < x
    · rw [if_pos hyx, exts_two h.swap f hyx, exts_mgs f _ _ _ h.swap.step (by simp; omega), exts_mgs f _ _ _ h.step.swap (by simp; omega)]
    · rw [if_neg hyx, exts_two h f (by omega), exts_mgs f _ _ _ h.step (by simp; omega), exts_mgs f _ _ _ h.swap.step.swap (by simp; omega)]
theorem exts_ne {vs : List TArrival} {B a b : List Int} (h : QQ vs B a b) {f : Nat} (hf : a.length + b.length = f) : exts vs f B ≠ [] := by
  rw [exts_mgs f B a b h hf]; exact mgs_ne _ _ _ _
/-- The beginning of an order. -/
def PreO (vs : List TArrival) (B : List Int) : Prop := ∀ p, p < B.length → okO vs B p
theorem preO_snoc {vs : List TArrival} {B : List Int} {i : Int} (h : PreO vs B) (hi : inA vs.length i) (hn : nextA vs B i) : PreO vs (B ++ [i]) := by
  intro p hp
  unfold okO
  by_cases hpl : p < B.length
  · rw [getD_appL _ hpl, List.take_append_of_le_length (by omega)]
    exact h p hpl
  · obtain rfl : p = B.length := by simp at hp; omega
    rw [getD_appR _ _ rfl, List.take_append_of_le_length (Nat.le_refl _), List.take_length]
    exact ⟨hi, hn⟩
theorem exts_ord {vs : List TArrival} (hg : goodAs vs) : ∀ (f : Nat) (B : List Int), PreO vs B → B.length + f = vs.length → ∀ O ∈ exts vs f B, OrdA vs O
  | 0, B, h, hl, O, hO => by
    obtain rfl : O = B := by simpa [exts] using hO
    exact ⟨hg, by omega, h⟩
  | f + 1, B, h, hl, O, hO => by
    rw [exts, List.mem_flatMap] at hO
    obtain ⟨i, hi, hO⟩ := hO
    by_cases hn : nxA vs B (i : Int) = true
    · rw [if_pos hn] at hO
      exact exts_ord hg f _ (preO_snoc h (by have := List.mem_range.1 hi; unfold inA; omega) ((nxA_iff _ _ _).1 hn)) (by simp; omega) O hO
    · rw [if_neg hn] at hO; cases hO
/-- The first one of the least. -/
def fmS (D : List Int → Int) (acc : List Int × Int) (O : List Int) : List Int × Int := if D O < acc.2 then (O, D O) else acc
def fm (D : List Int → Int) (acc : List Int × Int) (Ls : List (List Int)) : List Int × Int := Ls.foldl (fmS D) acc
theorem fm_append (D : List Int → Int) (acc : List Int × Int) (L M : List (List Int)) : fm D acc (L ++ M) = fm D (fm D acc L) M := by unfold fm; rw [List.foldl_append]
theorem fm_le (D : List Int → Int) : ∀ (L : List (List Int)) (acc : List Int × Int), (fm D acc L).2 ≤ acc.2
  | [], acc => Int.le_refl _
  | O :: t, acc => by
    have := fm_le D t (fmS D acc O)
    have h : (fmS D acc O).2 ≤ acc.2 := by unfold fmS; split <;> (first | omega | (dsimp only; omega))
    unfold fm at *
    rw [List.foldl_cons]
    omega
theorem fm_two (D : List Int → Int) : ∀ (L : List (List Int)) (acc ini : List Int × Int), acc.2 ≤ ini.2 → fm D acc L = if (fm D ini L).2 < acc.2 then fm D ini L else acc
  | [], acc, ini, h => (if_neg (show ¬ ini.2 < acc.2 by omega)).symm
  | O :: t, acc, ini, h => by
    have e1 : fm D acc (O :: t) = fm D (fmS D acc O) t := rfl
    have e2 : fm D ini (O :: t) = fm D (fmS D ini O) t := rfl
    rw [e1, e2]
    by_cases h1 : D O < acc.2
    · have f1 : fmS D acc O = (O, D O) := by unfold fmS; rw [if_pos h1]
      have f2 : fmS D ini O = (O, D O) := by unfold fmS; rw [if_pos (by omega)]
      rw [f1, f2]
      have := fm_le D t (O, D O)
      rw [if_pos (by dsimp only at this; omega)]
    · have f1 : fmS D acc O = acc := by unfold fmS; rw [if_neg h1]
      rw [f1]
      refine fm_two D t acc _ ?_
      unfold fmS
      split
      · dsimp only; omega
      · exact h
/-- It is one of them, and not greater than what it began with. -/
theorem fm_mem (D : List Int → Int) : ∀ (L : List (List Int)) (acc : List Int × Int), fm D acc L = acc ∨ ((fm D acc L).1 ∈ L ∧ (fm D acc L).2 = D (fm D acc L).1)
  | [], acc => .inl rfl
  | O :: t, acc => by
    have e1 : fm D acc (O :: t) = fm D (fmS D acc O) t := rfl
    rw [e1]
    rcases fm_mem D t (fmS D acc O) with h | h
    · rw [h]
      unfold fmS
      split
      · exact .inr ⟨by simp, rfl⟩
      · exact .inl rfl
    · exact .inr ⟨by simp [h.1], h.2⟩
theorem fm_hit (D : List Int → Int) {L : List (List Int)} {ini : List Int × Int} (hne : L ≠ []) (hD : ∀ O ∈ L, D O < ini.2) : (fm D ini L).1 ∈ L ∧ (fm D ini L).2 = D (fm D ini L).1 := by
  rcases fm_mem D L ini with h | h
  · exfalso
    cases L with
    | nil => exact hne rfl
    | cons O t =>
      have e1 : fm D ini (O :: t) = fm D (fmS D ini O) t := rfl
      have h2 := fm_le D t (fmS D ini O)
      have h3 : (fmS D ini O).2 = D O := by unfold fmS; rw [if_pos (hD O (by simp))]
      have h4 := hD O (by simp)
      rw [← e1, h] at h2
      omega
  · exact h
/-- The order in which they come. -/
structure FirstA (vs : List TArrival) (n : Nat) (os : List Int) : Prop where
  len : os.length = n
  mem : ∀ z ∈ os, inA n z
  ord : os.Pairwise (befI vs)
theorem FirstA.all {vs : List TArrival} {n : Nat} {os : List Int} (h : FirstA vs n os) {k : Nat} (hk : k < n) : (k : Int) ∈ os :=
  all_in (h.ord.imp (fun {a b} hb e => by subst e; exact bef_irr _ hb)) h.len h.mem hk
theorem ord_one {vs : List TArrival} : ∀ {l m : List Int}, l.Pairwise (befI vs) → m.Pairwise (befI vs) → (∀ z, z ∈ l ↔ z ∈ m) → l = m
  | [], [], _, _, _ => rfl
  | [], y :: m, _, _, h => absurd ((h y).2 (by simp)) (by simp)
  | x :: l, [], _, _, h => absurd ((h x).1 (by simp)) (by simp)
  | x :: l, y :: m, hl, hm, h => by
    rw [List.pairwise_cons] at hl hm
    have hxy : x = y := by
      by_cases e : x = y
      · exact e
      · exfalso
        have h1 : x ∈ m := (List.mem_cons.1 ((h x).1 (by simp))).resolve_left e
        have h2 : y ∈ l := (List.mem_cons.1 ((h y).2 (by simp))).resolve_left (fun g => e g.symm)
        exact bef_asym (hm.1 x h1) (hl.1 y h2)
    subst hxy
    rw [ord_one hl.2 hm.2 (fun z => ?_)]
    by_cases e : z = x
    · subst e
      exact ⟨fun g => absurd (hl.1 z g) (bef_irr _), fun g => absurd (hm.1 z g) (bef_irr _)⟩
    · have := h z
      simp only [List.mem_cons, e, false_or] at this
      exact this
theorem first_one {vs : List TArrival} {n : Nat} {l m : List Int} (hl : FirstA vs n l) (hm : FirstA vs n m) : l = m :=
  ord_one hl.ord hm.ord (fun z => by
    have e : ∀ {l : List Int}, FirstA vs n l → (z ∈ l ↔ inA n z) := fun {l} h => ⟨h.mem z, fun g => by
      have hc : ((z.toNat : Nat) : Int) = z := by unfold inA at g; omega
      rw [← hc]; exact h.all (by unfold inA at g; omega)⟩
    rw [e hl, e hm])
/-- One more is put in its place. -/
theorem first_ins {vs : List TArrival} (hg : goodAs vs) {k : Nat} {os : List Int} (h : FirstA vs k os) (hk : k < vs.length) {p : Nat} (hp : p ≤ k) (hhi : ∀ j, p ≤ j → j < k → befI vs (k : Int) (os.getD j 0)) (hlo : 0 < p → ¬ befI vs (k : Int) (os.getD (p - 1) 0)) :
    FirstA vs (k + 1) (os.take p ++ [(k : Int)] ++ os.drop p) := by
  have hl := h.len
  refine ⟨by simp; omega, fun z hz => ?_, ?_⟩
  · simp only [List.mem_append, List.mem_singleton] at hz
    unfold inA
    rcases hz with (hz | rfl) | hz
    · have := h.mem z (List.mem_of_mem_take hz); unfold inA at this; omega
    · omega
    · have := h.mem z (List.mem_of_mem_drop hz); unfold inA at this; omega
  · have hlo2 : ∀ z ∈ os.take p, befI vs z (k : Int) := fun z hz => by
      have hp0 : 0 < p := by
        rcases Nat.eq_zero_or_pos p with e | e
        · subst e; simp at hz
        · exact e
      have hlast := hlo hp0
      have hm1 := getD_mem (os := os) (p := p - 1) (by omega)
      have hr1 := h.mem _ hm1
      have hne : (atA vs (k : Int)).x0 ≠ (atA vs (os.getD (p - 1) 0)).x0 := by
        unfold inA at hr1
        unfold atA
        exact ids_ne hg (by omega) (by omega) (by omega)
      have hb1 : befI vs (os.getD (p - 1) 0) (k : Int) := bef_tri hlast hne
      obtain ⟨q, hq, hql, e⟩ := take_mem hz
      by_cases hqe : q = p - 1
      · rw [← e, hqe]; exact hb1
      · have := List.pairwise_iff_getElem.1 h.ord q (p - 1) hql (by omega) (by omega)
        rw [← e]
        refine bef_trans ?_ hb1
        rw [List.getD_eq_getElem?_getD, List.getElem?_eq_getElem hql, List.getD_eq_getElem?_getD, List.getElem?_eq_getElem (show p - 1 < os.length by omega)]
        exact this
    have hhi2 : ∀ z ∈ os.drop p, befI vs (k : Int) z := fun z hz => by
      obtain ⟨q, hq, e⟩ := List.getElem_of_mem hz
      rw [List.length_drop] at hq
      have := hhi (p + q) (by omega) (by omega)
      rw [List.getD_eq_getElem?_getD, List.getElem?_eq_getElem (by omega)] at this
      rw [List.getElem_drop] at e
      rw [← e]; exact this
    rw [List.append_assoc, List.singleton_append, List.pairwise_append]
    have hsub : (os.take p ++ os.drop p).Pairwise (befI vs) := by rw [List.take_append_drop]; exact h.ord
    rw [List.pairwise_append] at hsub
    refine ⟨hsub.1, List.pairwise_cons.2 ⟨hhi2, hsub.2.1⟩, fun x hx y hy => ?_⟩
    rcases List.mem_cons.1 hy with rfl | hy
    · exact hlo2 x hx
    · exact hsub.2.2 x hx y hy
/-- The queues of both directions. -/
def quU (vs : List TArrival) (os : List Int) : List Int := os.filter fun i => (atA vs i).x1
def quD (vs : List TArrival) (os : List Int) : List Int := os.filter fun i => !(atA vs i).x1
theorem qq_start {vs : List TArrival} (hg : goodAs vs) {os : List Int} (h : FirstA vs vs.length os) : QQ vs [] (quU vs os) (quD vs os) := by
  refine ⟨hg, ⟨true, fun z hz => ?_, fun z hz => ?_⟩, h.ord.filter _, h.ord.filter _, fun k hk => ?_, fun _ _ g => (by cases g), fun _ _ g => (by cases g)⟩
  · rw [quU, List.mem_filter] at hz
    exact ⟨h.mem z hz.1, hz.2⟩
  · rw [quD, List.mem_filter] at hz
    exact ⟨h.mem z hz.1, by simpa using hz.2⟩
  · have := h.all hk
    rw [quU, quD, List.mem_filter, List.mem_filter]
    cases (atA vs (k : Int)).x1 <;> simp [this]
theorem qu_len (vs : List TArrival) : ∀ os : List Int, (quU vs os).length + (quD vs os).length = os.length
  | [] => rfl
  | i :: t => by
    have := qu_len vs t
    unfold quU quD at *
    rw [List.filter_cons, List.filter_cons]
    cases (atA vs i).x1 <;> simp <;> omega
end Go.Proofs.Ytdleidlmjliapaa
