/- Chapter 4: the mathematics of FnPackings: letters of a picture, the smallest packing. -/
import Derived.Test.YtdleidlmjliapaaPkM
import Derived.Test.YtdleidlmjliapaaChY
import Derived.Test.YtdleidlmjliapaaChI
import Derived.Test.YtdleidlmjliapaaChL
namespace Go.Proofs.Ytdleidlmjliapaa
set_option linter.unusedVariables false

theorem sumN_swap (f : Nat → Nat → Nat) (m : Nat) : ∀ n, sumN (fun i => sumN (fun j => f i j) m) n = sumN (fun j => sumN (fun i => f i j) n) m
  | 0 => by simp only [sumN]; rw [sumN_zero]
  | n + 1 => by
    simp only [sumN]
    rw [sumN_swap f m n, ← sumN_add]
/-- Letters. -/
def ltB (b : UInt8) : Nat := if 97 ≤ b.toNat ∧ b.toNat ≤ 100 then 1 else 0
def letN (L : List UInt8) : Nat := (L.map ltB).sum
theorem letN_append (L M : List UInt8) : letN (L ++ M) = letN L + letN M := by unfold letN; rw [List.map_append, List.sum_append]
theorem ltB_letter {k : Nat} (hk : k ≤ 4) : ltB (letterB k) = if k = 0 then 0 else 1 := by
  obtain rfl | rfl | rfl | rfl | rfl : k = 0 ∨ k = 1 ∨ k = 2 ∨ k = 3 ∨ k = 4 := by omega
  all_goals decide
theorem cvUp_pos {hs : List THull} {ss : List TSpot} {i j k : Nat} (hc : cov (hs.getD k noHull, ss.getD k noSpot) i j) : ∀ m, k < m → cvUp hs ss i j m ≠ 0
  | 0, h => absurd h (by omega)
  | m + 1, h => by
    rw [cvUp]
    split
    · omega
    · next hn => exact cvUp_pos hc m (by
        rcases Nat.lt_succ_iff_lt_or_eq.1 h with g | g
        · exact g
        · subst g; exact absurd hc hn)
theorem cv_yes {hs : List THull} {ss : List TSpot} (hl : ss.length = hs.length) {i j : Nat} : (if cv hs ss i j = 0 then 0 else 1) = if isCov hs ss i j then 1 else 0 := by
  by_cases h : isCov hs ss i j
  · rw [if_pos h]
    obtain ⟨p, hp, hc⟩ := h
    obtain ⟨k, hk, rfl⟩ := (laid_mem hl).1 hp
    rw [if_neg (cvUp_pos hc _ hk)]
  · rw [if_neg h, if_pos (cvUp_zero _ (fun k hk hc => h ⟨_, (laid_mem hl).2 ⟨k, hk, rfl⟩, hc⟩))]
theorem letN_row {hs : List THull} {ss : List TSpot} (hl : ss.length = hs.length) (h4 : hs.length ≤ 4) (j : Nat) : ∀ n, letN (rowB hs ss j n) = sumN (fun i => if isCov hs ss i j then 1 else 0) n
  | 0 => rfl
  | n + 1 => by
    rw [rowB_succ, letN_append, letN_row hl h4 j n]
    simp only [sumN]
    congr 1
    unfold letN
    rw [List.map_singleton, List.sum_singleton, ltB_letter (Nat.le_trans (cvUp_le _ _ _ _ _) h4), cv_yes hl]
theorem letN_pic {c : TChamber} {hs : List THull} {ss : List TSpot} (hl : ss.length = hs.length) (h4 : hs.length ≤ 4) : ∀ m, letN (picB c hs ss m) = sumN (fun j => sumN (fun i => if isCov hs ss i j then 1 else 0) c.x0.toNat) m
  | 0 => rfl
  | m + 1 => by
    rw [picB, letN_append, letN_append, letN_pic hl h4 m, letN_row hl h4]
    simp only [sumN]
    show _ + _ + letN [10] = _
    rw [show letN [10] = 0 from by decide, Nat.add_zero]
theorem pic_count {c : TChamber} {hs : List THull} {ss : List TSpot} (h : packing c hs ss) : (letN (picB c hs ss c.x1.toNat) : Int) = celH hs hs.length := by
  rw [letN_pic h.2.2.1 h.2.1.1, ← sumN_swap, ← cntA_all h]
  rfl
/-- Letters of the first k bytes. -/
def cntL (s : ByteArray) (k : Nat) : Int := (letN (s.data.toList.take k) : Int)
theorem cntL_zero (s : ByteArray) : cntL s 0 = 0 := rfl
theorem cntL_bd (s : ByteArray) : ∀ k, 0 ≤ cntL s k ∧ cntL s k ≤ (k : Int) := by
  intro k
  have h : ∀ L : List UInt8, letN L ≤ L.length := by
    intro L
    induction L with
    | nil => simp [letN]
    | cons b L ih =>
      have : letN (b :: L) = ltB b + letN L := by simp [letN]
      rw [this, List.length_cons]
      unfold ltB
      split <;> omega
  have := h (s.data.toList.take k)
  have h2 : (s.data.toList.take k).length ≤ k := by simp; omega
  unfold cntL
  omega
theorem cntL_succ (s : ByteArray) (k : Nat) (h : k < s.size) : cntL s (k + 1) = cntL s k + if 97 ≤ (s[k].toNat : Int) ∧ (s[k].toNat : Int) ≤ 100 then 1 else 0 := by
  have e : s.data.toList.take (k + 1) = s.data.toList.take k ++ [s[k]] := by
    rw [List.take_succ_eq_append_getElem (by simpa using h)]; rfl
  unfold cntL
  rw [e, letN_append]
  have : letN [s[k]] = ltB s[k] := by simp [letN]
  rw [this]
  unfold ltB
  by_cases g : 97 ≤ s[k].toNat ∧ s[k].toNat ≤ 100
  · rw [if_pos g, if_pos (by omega)]; rfl
  · rw [if_neg g, if_neg (by omega)]; simp
theorem pic_all {c : TChamber} {hs : List THull} {ss : List TSpot} {S : ByteArray} {x y : Int} {t u : Bool} (h1 : CovA c hs ss x y t) (h2 : PicA c hs ss S u) : u = t ∧ t = gP c hs ss ∧ cntL S S.size = x ∧ S.size ≤ 21 ∧ (t = true → x = celH hs hs.length ∧ y = c.x0 * c.x1 - x ∧ packing c hs ss) := by
  cases e : gP c hs ss with
  | false =>
    obtain ⟨rfl, rfl, rfl⟩ := h1.no e
    obtain ⟨rfl, rfl⟩ := h2.bad e
    exact ⟨rfl, rfl, rfl, by decide, fun h => by cases h⟩
  | true =>
    obtain ⟨rfl, rfl, rfl⟩ := h1.yes e
    obtain ⟨rfl, rfl⟩ := h2.yes e
    have hp := (gP_iff _ _ _).1 e
    obtain ⟨⟨c0, -⟩, c1, c2⟩ := hp.1
    have hlen := picB_len (c := c) (by obtain ⟨⟨-, g⟩, -⟩ := hp.1; exact g) hs ss c.x1.toNat
    refine ⟨rfl, rfl, ?_, by rw [mkB_size]; omega, fun _ => ⟨rfl, rfl, hp⟩⟩
    rw [← pic_count hp]
    unfold cntL
    rw [mkB_size, show (mkB (picB c hs ss c.x1.toNat)).data.toList = picB c hs ss c.x1.toNat from by simp, List.take_length]
/-- The packing that is found is the smallest one. -/
theorem first_least {c : TChamber} {hs : List THull} {ss L : List TSpot} {x : Bool} (h : packing c hs ss) (hA : FirstA c hs L x) : x = true ∧ L.length = ss.length ∧ lexS L ss := by
  obtain ⟨hc, hg, hl, hp⟩ := h
  have h1 := lies_of_pack hl hp
  have hm : (laidL hs ss).map Prod.fst = hs.reverse := by
    unfold laidL
    rw [List.map_reverse, zip_fst hs ss hl.symm]
  have hm2 : ((laidL hs ss).map Prod.snd).reverse = ss := by
    unfold laidL
    rw [List.map_reverse, zip_snd hs ss hl.symm, List.reverse_reverse]
  have h2 := search_complete hs [] (laidL hs ss) hm (by rw [List.append_nil]; exact h1)
  cases e : search c hs [] with
  | none => rw [e] at h2; cases h2
  | some r =>
    obtain ⟨e', hr, hm3, hx⟩ := search_least hs [] (laidL hs ss) r hm (by rw [List.append_nil]; exact h1) e
    obtain ⟨rfl, rfl⟩ := hA.yes r hc hg e
    rw [List.append_nil] at hr
    subst hr
    rw [hm2] at hx
    refine ⟨rfl, ?_, hx⟩
    show ((r.map Prod.snd).reverse).length = _
    have := congrArg List.length hm3
    simp at this
    simp [this, hl]
/-- A packing that is found is one. -/
theorem first_pack {c : TChamber} {hs : List THull} {L : List TSpot} (hA : FirstA c hs L true) : gP c hs L = true := by
  cases g : (decide (goodC c) && gHs hs) with
  | false => have := (hA.bad g).2; cases this
  | true =>
    obtain ⟨hc, hg⟩ := good_of g
    cases e : search c hs [] with
    | none => have := (hA.no hc hg e).2; cases this
    | some r =>
      obtain ⟨rfl, -⟩ := hA.yes r hc hg e
      obtain ⟨hl, e', hr, hm⟩ := search_some hs [] r trivial e
      rw [List.append_nil] at hr
      subst hr
      refine (gP_iff _ _ _).2 ⟨hc, hg, ?_, (pack_lies r hs [] (by rw [hm]; simp)).2 hl⟩
      have := congrArg List.length hm
      simp at this
      simp [this]
end Go.Proofs.Ytdleidlmjliapaa
