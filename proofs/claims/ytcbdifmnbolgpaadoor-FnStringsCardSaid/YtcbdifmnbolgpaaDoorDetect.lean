/- Plain words: one changed byte of a sealed string is found. -/
import Derived.Test.YtcbdifmnbolgpaaDoorVerify
namespace Go.Proofs.YtcbdifmnbolgpaaDoor
open Go.RowKit Go.PlainAid

theorem ck_inj (h h' c : Int) (h0 : 0 ≤ h) (h1 : h < 999979) (g0 : 0 ≤ h') (g1 : h' < 999979) (e : (41 * h + c + 1) % 999979 = (41 * h' + c + 1) % 999979) : h = h' := by omega
theorem ck_byte (h c c' : Int) (a0 : 0 ≤ c) (a1 : c ≤ 255) (b0 : 0 ≤ c') (b1 : c' ≤ 255) (e : (41 * h + c + 1) % 999979 = (41 * h + c' + 1) % 999979) : c = c' := by omega
def ckf (l : List UInt8) (a : Int) : Int := l.foldl (fun h c => (41 * h + (c.toNat : Int) + 1) % 999979) a
theorem ckf_cons (c : UInt8) (l : List UInt8) (a : Int) : ckf (c :: l) a = ckf l ((41 * a + (c.toNat : Int) + 1) % 999979) := rfl
theorem ckf_inj : ∀ (l : List UInt8) (a b : Int), 0 ≤ a → a < 999979 → 0 ≤ b → b < 999979 → ckf l a = ckf l b → a = b
  | [], _, _, _, _, _, _, e => e
  | c :: l, a, b, a0, a1, b0, b1, e => by
    rw [ckf_cons, ckf_cons] at e
    exact ck_inj a b _ a0 a1 b0 b1 (ckf_inj l _ _ (by omega) (by omega) (by omega) (by omega) e)
theorem ck_ne (A B : List UInt8) (c c' : UInt8) (hne : c ≠ c') : ck (A ++ c :: B) ≠ ck (A ++ c' :: B) := by
  intro e
  have h1 : ∀ d : UInt8, ck (A ++ d :: B) = ckf B ((41 * ck A + (d.toNat : Int) + 1) % 999979) := fun d => by simp [ck, ckf, List.foldl_append]
  rw [h1, h1] at e
  have e2 := ckf_inj B _ _ (by omega) (by omega) (by omega) (by omega) e
  have c1 := c.toNat_lt
  have c2 := c'.toNat_lt
  have e3 := ck_byte (ck A) c.toNat c'.toNat (by omega) (by omega) (by omega) (by omega) e2
  exact hne (UInt8.toNat_inj.1 (by omega))
theorem first_one : ∀ (A A' D E : List UInt8), (35 : UInt8) ∉ A → (35 : UInt8) ∉ A' → A ++ 35 :: D = A' ++ 35 :: E → A = A' ∧ D = E
  | [], [], D, E, _, _, e => by simpa using e
  | [], a :: A', D, E, _, h', e => by
    have : (35 : UInt8) = a := by have := congrArg List.head? e; simpa using this
    exact absurd (this ▸ List.mem_cons_self) h'
  | a :: A, [], D, E, h, _, e => by
    have : a = (35 : UInt8) := by have := congrArg List.head? e; simpa using this
    exact absurd (this ▸ List.mem_cons_self) h
  | a :: A, a' :: A', D, E, h, h', e => by
    simp only [List.cons_append, List.cons.injEq] at e
    obtain ⟨rfl, e⟩ := e
    obtain ⟨rfl, rfl⟩ := first_one A A' D E (fun m => h (List.mem_cons_of_mem _ m)) (fun m => h' (List.mem_cons_of_mem _ m)) e
    exact ⟨rfl, rfl⟩
theorem last_one (A A' D E : List UInt8) (h : (35 : UInt8) ∉ D) (h' : (35 : UInt8) ∉ E) (e : A ++ 35 :: D = A' ++ 35 :: E) : A = A' ∧ D = E := by
  have e2 := congrArg List.reverse e
  simp only [List.reverse_append, List.reverse_cons, List.append_assoc, List.cons_append, List.nil_append] at e2
  obtain ⟨r1, r2⟩ := first_one D.reverse E.reverse A.reverse A'.reverse (by simpa using h) (by simpa using h') e2
  exact ⟨List.reverse_inj.1 r2, List.reverse_inj.1 r1⟩
theorem detect (X T D E : List UInt8) (k : Nat) (c' : UInt8) (hX : (35 : UInt8) ∉ X) (hD : (35 : UInt8) ∉ D) (hT : (35 : UInt8) ∉ T) (hE : (35 : UInt8) ∉ E)
    (hk : k < (X ++ 35 :: D).length) (hc : c' ≠ (X ++ 35 :: D)[k]) (hb : (X ++ 35 :: D).set k c' = T ++ 35 :: E) :
    (E = D ∧ ∃ A B c, X = A ++ c :: B ∧ T = A ++ c' :: B ∧ c ≠ c') ∨ (T = X ∧ E ≠ D) := by
  rw [List.set_append] at hb
  by_cases h : k < X.length
  · rw [if_pos h] at hb
    obtain ⟨rfl, rfl⟩ := last_one _ _ _ _ hD hE hb
    refine .inl ⟨rfl, X.take k, X.drop (k + 1), X[k], ?_, ?_, ?_⟩
    · simp
    · rw [List.set_eq_take_append_cons_drop, if_pos h]
    · rw [List.getElem_append_left h] at hc
      exact fun e => hc e.symm
  · rw [if_neg h] at hb
    obtain ⟨j, rfl⟩ : ∃ j, k = X.length + j := ⟨k - X.length, by omega⟩
    rw [Nat.add_sub_cancel_left] at hb
    rw [List.getElem_append_right (by omega)] at hc
    cases j with
    | zero =>
      exfalso
      simp only [List.set_cons_zero] at hb
      simp at hc
      have hm : (35 : UInt8) ∈ X ++ c' :: D := by rw [hb]; simp
      simp only [List.mem_append, List.mem_cons] at hm
      rcases hm with hm | hm | hm
      · exact hX hm
      · exact hc hm.symm
      · exact hD hm
    | succ i =>
      simp only [List.set_cons_succ] at hb
      obtain ⟨rfl, rfl⟩ := first_one _ _ _ _ hX hT hb
      refine .inr ⟨rfl, fun e => ?_⟩
      have hi : i < D.length := by simp at hk; omega
      have e2 : (D.set i c')[i]? = D[i]? := by rw [e]
      rw [List.getElem?_set_self hi, List.getElem?_eq_getElem hi] at e2
      simp at hc
      exact hc (Option.some.inj e2)
theorem holds_mem (s : ByteArray) : holdsB s 35 ↔ (35 : UInt8) ∈ s.data.toList := by
  constructor
  · rintro ⟨j, hj, e⟩
    obtain ⟨c, hc, e2⟩ := bt_mem s j hj
    have : c = 35 := UInt8.toNat_inj.1 (by rw [e2] at e; show c.toNat = 35; omega)
    rw [← this]; exact hc
  · intro h
    obtain ⟨j, hj, e⟩ := List.mem_iff_getElem.1 h
    have hj' : j < s.size := by simpa using hj
    exact ⟨j, hj', by rw [bt_list s j hj', e]; rfl⟩
theorem seal_list (s : ByteArray) : (seal_ s).data.toList = s.data.toList ++ 35 :: (numB (cks s s.size)).data.toList := by
  unfold seal_ markC; simp
theorem cks_ck (s : ByteArray) : cks s s.size = ck s.data.toList := by unfold cks; rw [List.take_of_length_le (by simp)]
theorem num_inj {a b : Int} (ha : 0 ≤ a) (hb : 0 ≤ b) (e : (numB a).data.toList = (numB b).data.toList) : a = b := by
  obtain ⟨x, rfl⟩ : ∃ x : Nat, a = (x : Int) := ⟨a.toNat, by omega⟩
  obtain ⟨y, rfl⟩ : ∃ y : Nat, b = (y : Int) := ⟨b.toNat, by omega⟩
  rw [numB_data, numB_data] at e
  have h1 := pv_dec x
  rw [e, pv_dec y] at h1
  omega
/-- No string without a mark has the changed text as its sealed one. -/
theorem changed (x b t : ByteArray) (k : Nat) (c' : UInt8) (hx : ¬ holdsB x 35) (ht : ¬ holdsB t 35) (hk : k < (seal_ x).size) (hc : (c'.toNat : Int) ≠ bt (seal_ x) k) (hb : b.data.toList = (seal_ x).data.toList.set k c') : seal_ t ≠ b := by
  intro e
  have n1 := num_nomark (cks x x.size) (cks_bd x _).1
  have n2 := num_nomark (cks t t.size) (cks_bd t _).1
  rw [holds_mem] at hx ht n1 n2
  have hk' : k < (x.data.toList ++ 35 :: (numB (cks x x.size)).data.toList).length := by rw [← seal_list]; simpa using hk
  have hc' : c' ≠ (x.data.toList ++ 35 :: (numB (cks x x.size)).data.toList)[k] := by
    intro e2
    apply hc
    rw [bt_list _ k hk, e2]
    simp only [seal_list]
  have hb' : (x.data.toList ++ 35 :: (numB (cks x x.size)).data.toList).set k c' = t.data.toList ++ 35 :: (numB (cks t t.size)).data.toList := by
    rw [← seal_list, ← seal_list, ← hb, e]
  rcases detect _ _ _ _ k c' hx n1 ht n2 hk' hc' hb' with ⟨e1, A, B, c, h1, h2, h3⟩ | ⟨e1, h2⟩
  · have := num_inj (cks_bd t _).1 (cks_bd x _).1 e1
    rw [cks_ck, cks_ck, h1, h2] at this
    exact ck_ne A B c c' h3 this.symm
  · have : t = x := ext_list e1
    subst this
    exact h2 rfl
/-- What stands before the first mark of a sealed string is the string. -/
theorem fold_pre (sep : ByteArray) : ∀ (r : List ByteArray) (a : ByteArray), ∃ z : ByteArray, r.foldl (fun acc y => acc ++ sep ++ y) a = a ++ z
  | [], a => ⟨⟨#[]⟩, by apply ext_list; simp⟩
  | y :: r, a => by
    obtain ⟨z, hz⟩ := fold_pre sep r (a ++ sep ++ y)
    exact ⟨sep ++ y ++ z, by rw [List.foldl_cons, hz]; apply ext_list; simp⟩
theorem front_seal (x : ByteArray) (hx : ¬ holdsB x 35) : front (seal_ x) = x := by
  have hj := parts_join (seal_ x) markC mark_size
  rw [mark_bt] at hj
  have hc := front_clean (seal_ x)
  rw [holds_mem] at hc hx
  have hf : front (seal_ x) = (parts (seal_ x) 35)[0]'(parts_pos _ _) := rfl
  match hp : parts (seal_ x) 35, parts_pos (seal_ x) 35 with
  | [p], _ =>
    exfalso
    have hfp : front (seal_ x) = p := by rw [hf]; simp [hp]
    rw [hp] at hj
    have hj' : p = seal_ x := hj
    rw [hfp, hj', seal_list] at hc
    simp at hc
  | p :: p1 :: r, _ =>
    have hfp : front (seal_ x) = p := by rw [hf]; simp [hp]
    rw [hp] at hj
    obtain ⟨z, hz⟩ := fold_pre markC r (p ++ markC ++ p1)
    have hj' : r.foldl (fun acc y => acc ++ markC ++ y) (p ++ markC ++ p1) = seal_ x := hj
    rw [hz] at hj'
    have hl := congrArg (fun b : ByteArray => b.data.toList) hj'
    simp only [seal_list] at hl
    rw [hfp] at hc ⊢
    have hl2 : p.data.toList ++ 35 :: (p1.data.toList ++ z.data.toList) = x.data.toList ++ 35 :: (numB (cks x x.size)).data.toList := by
      rw [← hl]; simp [markC]
    exact ext_list (first_one _ _ _ _ hc hx hl2).1
end Go.Proofs.YtcbdifmnbolgpaaDoor
