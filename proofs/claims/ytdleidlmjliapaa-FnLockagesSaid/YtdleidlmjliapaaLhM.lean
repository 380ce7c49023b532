/- Chapter 8: the mathematics of FnLockages: when each lockage begins, and the sum of the waits. -/
import Derived.Test.YtdleidlmjliapaaBdN
namespace Go.Proofs.Ytdleidlmjliapaa
set_option linter.unusedVariables false

/-- The minute of lockage k of an order. -/
def tmL (vs : List TArrival) (m : Int) (h : Bool) (os : List Int) (k : Nat) : Int := ((lks vs m h os).getD k nolockage).x2
theorem lk_now {vs : List TArrival} {m : Int} {h : Bool} {os : List Int} (hm : 1 ≤ m ∧ m ≤ 60) (hv : ∀ p, p < os.length → goodA (atA vs (os.getD p 0))) {k : Nat} (hk : k < os.length) :
    tmL vs m h os k = max (if ((atA vs (os.getD k 0)).x1 == (lkSt vs m h (os.take k)).2.2) = true then (lkSt vs m h (os.take k)).2.1 + m else (lkSt vs m h (os.take k)).2.1) (atA vs (os.getD k 0)).x2 ∧
    (lkSt vs m h (os.take (k + 1))).2.1 = tmL vs m h os k + m ∧ (lkSt vs m h (os.take (k + 1))).2.2 = (atA vs (os.getD k 0)).x1 := by
  have e := lkSt_take vs m h (os := os) (k := k) hk
  have hl := (lkB (h := h) hm hv (k := k) (by omega)).len
  have h1 := lks_at (h := h) (k := k + 1) (j := k) (by omega) hm hv (by omega)
  have e2 : tmL vs m h os k = max (if ((atA vs (os.getD k 0)).x1 == (lkSt vs m h (os.take k)).2.2) = true then (lkSt vs m h (os.take k)).2.1 + m else (lkSt vs m h (os.take k)).2.1) (atA vs (os.getD k 0)).x2 := by
    unfold tmL
    rw [← h1, lks, e, lkStep]
    dsimp only
    rw [getD_appR _ _ hl]
  refine ⟨e2, ?_, ?_⟩
  · rw [e2, e, lkStep]
  · rw [e, lkStep]
structure TmK (vs : List TArrival) (m : Int) (h : Bool) (os : List Int) (k : Nat) : Prop where
  inn : inA vs.length (os.getD k 0)
  g : goodA (atA vs (os.getD k 0))
  b : 0 ≤ tmL vs m h os k ∧ tmL vs m h os k ≤ 10719
  own : (atA vs (os.getD k 0)).x2 ≤ tmL vs m h os k
  w : 0 ≤ (atA vs (os.getD k 0)).x3 * (tmL vs m h os k - (atA vs (os.getD k 0)).x2) ∧ (atA vs (os.getD k 0)).x3 * (tmL vs m h os k - (atA vs (os.getD k 0)).x2) ≤ 96471
  sum : delL vs ((lks vs m h os).take (k + 1)) = delL vs ((lks vs m h os).take k) + (atA vs (os.getD k 0)).x3 * (tmL vs m h os k - (atA vs (os.getD k 0)).x2)
theorem tm_all {vs : List TArrival} {m : Int} {h : Bool} {os : List Int} (hg : gO vs m os = true) {k : Nat} (hk : k < os.length) : TmK vs m h os k := by
  obtain ⟨ho, hm⟩ := (gO_iff vs m os).1 hg
  have hv : ∀ p, p < os.length → goodA (atA vs (os.getD p 0)) := fun p hp => ho.good hp
  have hE := lks_each (h := h) ho.1 hm ho.le6 (fun p hp => ho.inn hp) hk
  have hl := lks_len (h := h) hm hv
  have hgk := hv k hk
  have e : wgt vs ((lks vs m h os).getD k nolockage) = (atA vs (os.getD k 0)).x3 * (tmL vs m h os k - (atA vs (os.getD k 0)).x2) := by
    unfold wgt tmL
    rw [hE.i, hE.w.1]
  have hw := wgt_bd hE (by have := hgk.2.1; omega)
  rw [e] at hw
  refine ⟨ho.inn hk, hgk, hE.b, ?_, hw, ?_⟩
  · have := hE.w
    unfold tmL
    omega
  · rw [delL_snoc (by omega), e]
theorem tm_next {vs : List TArrival} {m : Int} {h : Bool} {os : List Int} (hg : gO vs m os = true) {k : Nat} (hk : k + 1 < os.length) :
    tmL vs m h os k + m ≤ tmL vs m h os (k + 1) ∧ ((atA vs (os.getD (k + 1) 0)).x1 = (atA vs (os.getD k 0)).x1 → tmL vs m h os k + 2 * m ≤ tmL vs m h os (k + 1)) := by
  obtain ⟨ho, hm⟩ := (gO_iff vs m os).1 hg
  have hv : ∀ p, p < os.length → goodA (atA vs (os.getD p 0)) := fun p hp => ho.good hp
  obtain ⟨-, h1, h2⟩ := lk_now (h := h) hm hv (k := k) (by omega)
  obtain ⟨h3, -, -⟩ := lk_now (h := h) hm hv (k := k + 1) hk
  rw [h1, h2] at h3
  refine ⟨?_, fun e => ?_⟩
  · rw [h3]; split <;> omega
  · rw [if_pos (by rw [e]; simp)] at h3
    omega
theorem sum_bd {vs : List TArrival} {m : Int} {h : Bool} {os : List Int} (hg : gO vs m os = true) {k : Nat} (hk : k ≤ os.length) : 0 ≤ delL vs ((lks vs m h os).take k) ∧ delL vs ((lks vs m h os).take k) ≤ 600000 := by
  obtain ⟨ho, hm⟩ := (gO_iff vs m os).1 hg
  have hl := lks_len (h := h) hm (fun p hp => ho.good hp)
  have := delL_bd (vs := vs) (L := lks vs m h os) (fun j hj => by
    have h1 := tm_all (h := h) hg (k := j) (by omega)
    have h2 := lks_each (h := h) ho.1 hm ho.le6 (fun p hp => ho.inn hp) (j := j) (by omega)
    exact wgt_bd h2 (by have := h1.g.2.1; omega)) k (by omega)
  have := ho.le6
  omega
/-- What the law asks. -/
structure LokF (vs : List TArrival) (m : Int) (h : Bool) (os : List Int) (D : Int) (B : List Int) (z : Int) (T : List Int) (x2 x3 : Bool) : Prop where
  told : x2 = true
  fine : x3 = true
  low : z ≤ D
  best : DelayA vs h m B z true
  ord : oA vs B = true
  blen : B.length ≤ 6
  go : gO vs m os = true
  hm : 1 ≤ m ∧ m ≤ 60
  tms : ∀ k, k < os.length → T.getD k 0 = tmL vs m h os k
  tl : T.length = os.length
  ol : os.length = vs.length
  tot : delL vs ((lks vs m h os).take os.length) = D
theorem lok_all {vs : List TArrival} {m : Int} {h : Bool} {os B T : List Int} {D z : Int} {x2 x3 : Bool} (h1 : DelayA vs h m os D true) (h2 : BestA vs h m B z x2) (h3 : TimesA vs h m os T x3) : LokF vs m h os D B z T x2 x3 := by
  obtain ⟨hg, hD⟩ := delayA_is h1
  have hg := hg.symm
  rw [if_pos hg] at hD
  obtain ⟨ho, hm⟩ := (gO_iff vs m os).1 hg
  obtain ⟨k1, k2, k3, k4, -⟩ := best_yes (gO_gM hg) h2
  have hb := best_le (m := m) (h := h) ho
  have hdb := delayA_of vs h m B
  rw [k2, if_pos rfl, ← k3] at hdb
  have hl := lks_len (h := h) hm (fun p hp => ho.good hp)
  obtain ⟨L, hL, rfl⟩ := h3
  obtain ⟨rfl, rfl⟩ := hL.1 hg
  refine ⟨k1, rfl, by omega, hdb, (oA_iff _ _).2 ((gO_iff _ _ _).1 k2).1, ((gO_iff _ _ _).1 k2).1.le6, hg, hm, fun k hk => ?_, by unfold timesL; rw [List.length_map, hl], ho.2.1, ?_⟩
  · unfold timesL tmL
    rw [List.getD_eq_getElem?_getD, List.getElem?_map, List.getD_eq_getElem?_getD, List.getElem?_eq_getElem (by omega)]
    rfl
  · rw [hD, dly, ← hl, List.take_length]
theorem fine_is {vs : List TArrival} {m : Int} {h : Bool} {os T : List Int} {D : Int} {x x3 : Bool} (h1 : DelayA vs h m os D x) (h3 : TimesA vs h m os T x3) : x3 = x := by
  obtain ⟨rfl, -⟩ := delayA_is h1
  obtain ⟨L, hL, rfl⟩ := h3
  cases e : gO vs m os with
  | true => exact (hL.1 e).2
  | false => exact (hL.2 e).2
theorem come_ord {vs : List TArrival} {os : List Int} {x : Bool} (h : ComeA vs os x) : gAs vs = x ∧ (x = true → oA vs os = true) := by
  cases e : gAs vs with
  | true =>
    obtain ⟨h1, rfl⟩ := h.1 e
    exact ⟨rfl, fun _ => (oA_iff _ _).2 (first_ord ((gAs_iff _).1 e) h1)⟩
  | false =>
    obtain ⟨-, rfl⟩ := h.2 e
    exact ⟨rfl, fun h => by cases h⟩
/-- One round of the law's loop. -/
structure LokK (vs : List TArrival) (m : Int) (os T : List Int) (S : Nat → Int) (k : Nat) : Prop where
  o : ∃ o : Nat, os.getD k 0 = (o : Int) ∧ o < vs.length
  bt : 0 ≤ T.getD k 0 ∧ T.getD k 0 ≤ 10719
  bm : 0 ≤ (atA vs (os.getD k 0)).x2 ∧ (atA vs (os.getD k 0)).x2 ≤ 9999
  bw : 1 ≤ (atA vs (os.getD k 0)).x3 ∧ (atA vs (os.getD k 0)).x3 ≤ 9
  own : (atA vs (os.getD k 0)).x2 ≤ T.getD k 0
  w : 0 ≤ (atA vs (os.getD k 0)).x3 * (T.getD k 0 - (atA vs (os.getD k 0)).x2) ∧ (atA vs (os.getD k 0)).x3 * (T.getD k 0 - (atA vs (os.getD k 0)).x2) ≤ 96471
  sum : S (k + 1) = S k + (atA vs (os.getD k 0)).x3 * (T.getD k 0 - (atA vs (os.getD k 0)).x2)
  nx : ∀ j, k = j + 1 → (∃ o : Nat, os.getD j 0 = (o : Int) ∧ o < vs.length) ∧ (0 ≤ T.getD j 0 ∧ T.getD j 0 ≤ 10719) ∧ T.getD j 0 + m ≤ T.getD k 0 ∧ ((atA vs (os.getD k 0)).x1 = (atA vs (os.getD j 0)).x1 → T.getD j 0 + 2 * m ≤ T.getD k 0)
theorem in_ex {n : Nat} {z : Int} (h : inA n z) : ∃ o : Nat, z = (o : Int) ∧ o < n := by
  unfold inA at h
  exact ⟨z.toNat, by omega, by omega⟩
theorem lok_loop {vs : List TArrival} {m : Int} {h : Bool} {os B T : List Int} {D z : Int} {x2 x3 : Bool} (F : LokF vs m h os D B z T x2 x3) :
    ∃ S : Nat → Int, S 0 = 0 ∧ S os.length = D ∧ (∀ k, k ≤ os.length → 0 ≤ S k ∧ S k ≤ 600000) ∧ ∀ k, k < os.length → LokK vs m os T S k := by
  refine ⟨fun k => delL vs ((lks vs m h os).take k), by simp [delL], F.tot, fun k hk => sum_bd F.go hk, fun k hk => ?_⟩
  have h1 := tm_all (h := h) F.go hk
  have e := F.tms k hk
  refine ⟨in_ex h1.inn, by rw [e]; exact h1.b, by have := h1.g.2.1; omega, h1.g.2.2, by rw [e]; exact h1.own, by rw [e]; exact h1.w, by rw [e]; exact h1.sum, fun j hj => ?_⟩
  subst hj
  have h2 := tm_all (h := h) F.go (k := j) (by omega)
  have h3 := tm_next (h := h) F.go (k := j) hk
  rw [F.tms j (by omega), e]
  exact ⟨in_ex h2.inn, h2.b, h3.1, h3.2⟩
end Go.Proofs.Ytdleidlmjliapaa
