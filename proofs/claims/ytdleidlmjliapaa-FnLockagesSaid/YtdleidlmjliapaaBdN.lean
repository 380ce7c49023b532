/- Chapter 9: what the functions answer. -/
import Derived.Test.YtdleidlmjliapaaBdM
import Derived.Test.YtdleidlmjliapaaLkK
namespace Go.Proofs.Ytdleidlmjliapaa
set_option linter.unusedVariables false

/-- The order in which they come. -/
noncomputable def comeO (vs : List TArrival) : List Int := open Classical in if h : goodAs vs then (first_ex h vs.length (Nat.le_refl _)).choose else []
theorem comeO_is {vs : List TArrival} (hg : goodAs vs) : FirstA vs vs.length (comeO vs) := by
  unfold comeO; rw [dif_pos hg]; exact (first_ex hg vs.length (Nat.le_refl _)).choose_spec
theorem comeA_comeO (vs : List TArrival) : ComeA vs (comeO vs) (gAs vs) :=
  ⟨fun e => ⟨comeO_is ((gAs_iff vs).1 e), e⟩, fun e => ⟨by unfold comeO; rw [dif_neg (fun g => by rw [gAs_yes g] at e; cases e)], e⟩⟩
noncomputable def gM (vs : List TArrival) (m : Int) : Bool := gAs vs && decide (1 ≤ m ∧ m ≤ 60)
theorem gM_iff (vs : List TArrival) (m : Int) : gM vs m = true ↔ goodAs vs ∧ 1 ≤ m ∧ m ≤ 60 := by
  unfold gM; rw [Bool.and_eq_true, gAs_iff, decide_eq_true_eq]
noncomputable def lowL (vs : List TArrival) (h : Bool) (m : Int) : Int := max (alS vs h m vs.length) (quL vs m (comeO vs))
def AloneA (vs : List TArrival) (h : Bool) (m : Int) (z : Int) (x : Bool) : Prop := x = gM vs m ∧ z = if gM vs m = true then alS vs h m vs.length else 0
def QueueA (vs : List TArrival) (m : Int) (z : Int) (x : Bool) : Prop := x = gM vs m ∧ z = if gM vs m = true then quL vs m (comeO vs) else 0
def LowA (vs : List TArrival) (h : Bool) (m : Int) (z : Int) (x : Bool) : Prop := x = gM vs m ∧ z = if gM vs m = true then lowL vs h m else 0
def GapA (vs : List TArrival) (h : Bool) (m : Int) (os : List Int) (z : Int) (x : Bool) : Prop := x = gO vs m os ∧ z = if gO vs m os = true then dly vs m h os - lowL vs h m else 0
def ProvA (vs : List TArrival) (h : Bool) (m : Int) (os : List Int) (b x : Bool) : Prop := ∃ z, GapA vs h m os z x ∧ b = (x && decide (z = 0))
noncomputable def gG (vs : List TArrival) (m : Int) (os : List Int) (k : Int) : Bool := gO vs m os && (decide (0 ≤ k ∧ k ≤ (os.length : Int) - 2) && oA vs (swp os k.toNat))
def GainA (vs : List TArrival) (h : Bool) (m : Int) (os : List Int) (k : Int) (z : Int) (x : Bool) : Prop := x = gG vs m os k ∧ z = if gG vs m os k = true then dly vs m h os - dly vs m h (swp os k.toNat) else 0
def LocA (vs : List TArrival) (h : Bool) (m : Int) (L : List Int) (z : Int) (x : Bool) : Prop := x = gM vs m ∧ L = (if gM vs m = true then locO vs m h (comeO vs) else []) ∧ z = if gM vs m = true then dly vs m h (locO vs m h (comeO vs)) else 0
theorem aloneA_ex (vs : List TArrival) (h : Bool) (m : Int) : ∃ z x, AloneA vs h m z x := ⟨_, _, rfl, rfl⟩
theorem queueA_ex (vs : List TArrival) (m : Int) : ∃ z x, QueueA vs m z x := ⟨_, _, rfl, rfl⟩
theorem lowA_ex (vs : List TArrival) (h : Bool) (m : Int) : ∃ z x, LowA vs h m z x := ⟨_, _, rfl, rfl⟩
theorem gapA_ex (vs : List TArrival) (h : Bool) (m : Int) (os : List Int) : ∃ z x, GapA vs h m os z x := ⟨_, _, rfl, rfl⟩
theorem provA_ex (vs : List TArrival) (h : Bool) (m : Int) (os : List Int) : ∃ b x, ProvA vs h m os b x := ⟨_, _, _, ⟨rfl, rfl⟩, rfl⟩
theorem gainA_ex (vs : List TArrival) (h : Bool) (m : Int) (os : List Int) (k : Int) : ∃ z x, GainA vs h m os k z x := ⟨_, _, rfl, rfl⟩
theorem locA_ex (vs : List TArrival) (h : Bool) (m : Int) : ∃ L z x, LocA vs h m L z x := ⟨_, _, _, rfl, rfl, rfl⟩
theorem delayA_is {vs : List TArrival} {h : Bool} {m : Int} {os : List Int} {z : Int} {x : Bool} (hA : DelayA vs h m os z x) : x = gO vs m os ∧ z = if gO vs m os = true then dly vs m h os else 0 := by
  obtain ⟨L, hL, rfl⟩ := hA
  cases e : gO vs m os with
  | true => obtain ⟨rfl, rfl⟩ := hL.1 e; rw [if_pos rfl]; exact ⟨rfl, rfl⟩
  | false => obtain ⟨rfl, rfl⟩ := hL.2 e; exact ⟨rfl, rfl⟩
theorem delayA_of (vs : List TArrival) (h : Bool) (m : Int) (os : List Int) : DelayA vs h m os (if gO vs m os = true then dly vs m h os else 0) (gO vs m os) := by
  obtain ⟨z, x, hA⟩ := delayA_ex vs h m os
  obtain ⟨rfl, rfl⟩ := delayA_is hA
  exact hA
theorem gO_gM {vs : List TArrival} {m : Int} {os : List Int} (h : gO vs m os = true) : gM vs m = true := by
  have := (gO_iff vs m os).1 h
  exact (gM_iff vs m).2 ⟨this.1.1, this.2⟩
theorem alS_all {vs : List TArrival} {m : Int} (h : Bool) (hg : gM vs m = true) : 0 ≤ alS vs h m vs.length ∧ alS vs h m vs.length ≤ 600000 := by
  obtain ⟨h1, h2⟩ := (gM_iff vs m).1 hg
  have := alS_bd h1 h h2 vs.length (Nat.le_refl _)
  have := h1.1
  omega
theorem quL_all {vs : List TArrival} {m : Int} (hg : gM vs m = true) : 0 ≤ quL vs m (comeO vs) ∧ quL vs m (comeO vs) ≤ 600000 := by
  obtain ⟨h1, h2⟩ := (gM_iff vs m).1 hg
  have hf := comeO_is h1
  have ho := first_ord h1 hf
  have h3 := queue_le (h := true) h2 hf ho
  have h4 := dly_bd true h2 ho
  have h5 := (quSt_bd h2 (fun p hp => ho.good hp) _ (Nat.le_refl _)).2
  rw [List.take_length] at h5
  refine ⟨?_, by omega⟩
  unfold quL
  exact Int.mul_nonneg (by omega) h5.1.1
theorem lowL_all {vs : List TArrival} {m : Int} (h : Bool) (hg : gM vs m = true) : 0 ≤ lowL vs h m ∧ lowL vs h m ≤ 600000 := by
  have h1 := alS_all h hg
  have h2 := quL_all hg
  unfold lowL; omega
/-- The lower bound is at most the delay of every order. -/
theorem low_le {vs : List TArrival} {m : Int} (h : Bool) {O : List Int} (hg : gO vs m O = true) : lowL vs h m ≤ dly vs m h O := by
  obtain ⟨ho, hm⟩ := (gO_iff vs m O).1 hg
  have h1 := alone_le (h := h) hm ho
  have h2 := queue_le (h := h) hm (comeO_is ho.1) ho
  unfold lowL; omega
/-- What FnBounds asks of the best order. -/
theorem best_yes {vs : List TArrival} {h : Bool} {m : Int} {L : List Int} {z : Int} {x : Bool} (hg : gM vs m = true) (hA : BestA vs h m L z x) : x = true ∧ gO vs m L = true ∧ z = dly vs m h L ∧ z = (bestO vs m h).2 ∧ lowL vs h m ≤ z := by
  obtain ⟨h1, h2⟩ := (gM_iff vs m).1 hg
  obtain ⟨rfl, rfl, rfl⟩ := hA.1 (gAs_yes h1) (decide_eq_true h2)
  obtain ⟨h3, h4⟩ := bestO_ord h h1 h2 (comeO_is h1)
  have h5 : gO vs m (bestO vs m h).1 = true := (gO_iff _ _ _).2 ⟨h3, h2⟩
  exact ⟨rfl, h5, h4, rfl, by rw [h4]; exact low_le h h5⟩
theorem best_no {vs : List TArrival} {h : Bool} {m : Int} {L : List Int} {z : Int} {x : Bool} (hg : gM vs m = false) (hA : BestA vs h m L z x) : x = false := by
  refine (hA.2 ?_).2.2
  unfold gM at hg
  rwa [Bool.and_eq_false_iff] at hg
theorem gap_all {vs : List TArrival} {h : Bool} {m : Int} {os : List Int} {z : Int} {x : Bool} (hA : GapA vs h m os z x) : 0 ≤ z := by
  obtain ⟨-, rfl⟩ := hA
  split
  · next e => have := low_le h e; omega
  · exact Int.le_refl _
/-- A proven order is a best one. -/
theorem prov_best {vs : List TArrival} {h : Bool} {m : Int} {os L : List Int} {b x y x2 : Bool} {d z : Int} (hA : ProvA vs h m os b x) (hb : b = true) (hD : DelayA vs h m os d y) (hB : BestA vs h m L z x2) : y = true ∧ x2 = true ∧ d = z := by
  obtain ⟨g, ⟨rfl, rfl⟩, e⟩ := hA
  rw [hb] at e
  have e := e.symm
  rw [Bool.and_eq_true, decide_eq_true_eq] at e
  obtain ⟨e1, e2⟩ := e
  rw [if_pos e1] at e2
  obtain ⟨rfl, rfl⟩ := delayA_is hD
  obtain ⟨rfl, h2, h3, h4, h5⟩ := best_yes (gO_gM e1) hB
  obtain ⟨ho, hm⟩ := (gO_iff _ _ _).1 e1
  have h6 := best_le (m := m) (h := h) ho
  rw [if_pos e1]
  exact ⟨e1, rfl, by omega⟩
/-- What FnLocalOrders asks. -/
theorem loc_yes {vs : List TArrival} {h : Bool} {m : Int} {L : List Int} {z : Int} (hA : LocA vs h m L z true) : gO vs m L = true ∧ z = dly vs m h L ∧ gO vs m (comeO vs) = true ∧ z ≤ dly vs m h (comeO vs) ∧ gM vs m = true ∧ ∀ (k : Nat) g x, GainA vs h m L k g x → k + 1 < L.length → x = true → ¬ 0 < g := by
  obtain ⟨h1, h2, h3⟩ := hA
  rw [← h1, if_pos rfl] at h2 h3
  obtain ⟨hg, hm⟩ := (gM_iff vs m).1 h1.symm
  have hf := first_ord hg (comeO_is hg)
  obtain ⟨k1, k2, k3⟩ := locO_is (h := h) hm _ _ hf rfl
  subst h2
  refine ⟨(gO_iff _ _ _).2 ⟨k1, hm⟩, h3, (gO_iff _ _ _).2 ⟨hf, hm⟩, by omega, h1.symm, ?_⟩
  rintro k g x ⟨hx, hgz⟩ hk hxt
  rw [← hx, hxt, if_pos rfl] at hgz
  have h4 := k3 k hk
  unfold gnA at h4
  rw [hxt] at hx
  have hx := hx.symm
  unfold gG at hx
  rw [Bool.and_eq_true, Bool.and_eq_true, Int.toNat_natCast] at hx
  rw [if_pos hx.2.2] at h4
  rw [Int.toNat_natCast] at hgz
  omega
theorem gain_back {vs : List TArrival} {h : Bool} {m : Int} {os : List Int} {k : Int} {z : Int} (hA : GainA vs h m os k z true) : ∃ j : Nat, k = (j : Int) ∧ j + 1 < os.length ∧ GainA vs h m (swp os j) k (-z) true := by
  obtain ⟨h1, h2⟩ := hA
  rw [← h1, if_pos rfl] at h2
  have h1 := h1.symm
  unfold gG at h1
  rw [Bool.and_eq_true, Bool.and_eq_true, decide_eq_true_eq] at h1
  obtain ⟨e1, e2, e3⟩ := h1
  obtain ⟨j, rfl⟩ : ∃ j : Nat, k = (j : Int) := ⟨k.toNat, by omega⟩
  rw [Int.toNat_natCast] at e3 h2
  have hj : j + 1 < os.length := by omega
  obtain ⟨ho, hm⟩ := (gO_iff _ _ _).1 e1
  have hgg : gG vs m (swp os j) (j : Int) = true := by
    unfold gG
    rw [Bool.and_eq_true, Bool.and_eq_true, decide_eq_true_eq, Int.toNat_natCast, swp_swp hj, swp_len]
    exact ⟨(gO_iff _ _ _).2 ⟨(oA_iff _ _).1 e3, hm⟩, e2, oA_yes ho⟩
  refine ⟨j, rfl, hj, hgg.symm, ?_⟩
  rw [if_pos hgg, Int.toNat_natCast, swp_swp hj]
  omega
end Go.Proofs.Ytdleidlmjliapaa
