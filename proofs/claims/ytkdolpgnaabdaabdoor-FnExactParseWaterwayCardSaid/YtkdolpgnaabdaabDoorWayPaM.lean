/- Chapter 2: the model's reading of a waterway's text, as plain words. -/
import Derived.Test.YtkdolpgnaabdaabDoorWayPar
import Derived.Test.YtkdolpgnaabdaabDoorParse
namespace Go.Proofs.YtkdolpgnaabdaabDoor
open Go.RowKit Go.PlainAid

/-- A number's text tells the number. -/
theorem numB_inj (n m : Int) (h : numB n = numB m) : n = m := by
  by_cases hn : n < 0
  · obtain ⟨x, rfl⟩ : ∃ x : Nat, n = -(x : Int) := ⟨n.natAbs, by omega⟩
    obtain ⟨p1, p2, p3⟩ := neg_parts x (by omega)
    by_cases hm : m < 0
    · obtain ⟨y, rfl⟩ : ∃ y : Nat, m = -(y : Int) := ⟨m.natAbs, by omega⟩
      obtain ⟨-, -, q3⟩ := neg_parts y (by omega)
      have e : numB (x : Int) = numB (y : Int) := by rw [← p3, ← q3, h]
      have := rdv_num x
      rw [e, rdv_num y] at this
      omega
    · obtain ⟨y, rfl⟩ : ∃ y : Nat, m = (y : Int) := ⟨m.toNat, by omega⟩
      have := num_first y
      rw [← h, p2] at this
      omega
  · obtain ⟨x, rfl⟩ : ∃ x : Nat, n = (x : Int) := ⟨n.toNat, by omega⟩
    by_cases hm : m < 0
    · obtain ⟨y, rfl⟩ : ∃ y : Nat, m = -(y : Int) := ⟨m.natAbs, by omega⟩
      obtain ⟨-, p2, -⟩ := neg_parts y (by omega)
      have := num_first x
      rw [h, p2] at this
      omega
    · obtain ⟨y, rfl⟩ : ∃ y : Nat, m = (y : Int) := ⟨m.toNat, by omega⟩
      have := rdv_num x
      rw [h, rdv_num y] at this
      omega
open Classical in
/-- The number that a word is, if it is one. -/
noncomputable def rdO (s : ByteArray) : Option Int := if h : ∃ n : Int, -999999 ≤ n ∧ n ≤ 999999 ∧ numB n = s then some (Classical.choose h) else none
theorem rdO_num (n : Int) (h0 : -999999 ≤ n) (h1 : n ≤ 999999) : rdO (numB n) = some n := by
  unfold rdO
  have h : ∃ m : Int, -999999 ≤ m ∧ m ≤ 999999 ∧ numB m = numB n := ⟨n, h0, h1, rfl⟩
  rw [dif_pos h]
  rw [numB_inj _ _ (Classical.choose_spec h).2.2]
theorem rdO_some {s : ByteArray} {n : Int} (h : rdO s = some n) : -999999 ≤ n ∧ n ≤ 999999 ∧ numB n = s := by
  unfold rdO at h
  split at h
  · next hx =>
    injection h with h
    rw [← h]
    exact Classical.choose_spec hx
  · cases h
theorem rdO_none {s : ByteArray} (h : rdO s = none) : ∀ n : Int, -999999 ≤ n → n ≤ 999999 → numB n ≠ s := by
  intro n h0 h1 e
  subst e
  rw [rdO_num n h0 h1] at h
  cases h
theorem l1Read_any (s : ByteArray) (w : World) (hm : s.size ≤ 1048576) :
    Calls Tryd.prog 20 #[.string s] w fun e w' => e = .returned (.tuple #[.int .i64 ((rdO s).getD 0), .bool (rdO s).isSome]) ∧ Drawn w w' := by
  cases h : rdO s with
  | none => exact read_no s w hm (rdO_none h)
  | some n =>
    obtain ⟨h0, h1, e⟩ := rdO_some h
    exact read_ok n s w hm h0 h1 e
/-- One line read by the model. -/
noncomputable def specStep (st : List (Int × Int × Int) × List Int) (line : ByteArray) : Option (List (Int × Int × Int) × List Int) :=
  match parts line 32 with
  | [_, x] => (rdO x).map fun z => (st.1, st.2 ++ [z])
  | [_, l, _, d, _, s, _] => match rdO l, rdO d, rdO s with
    | some l, some d, some s => some (st.1 ++ [(l, d, s)], st.2)
    | _, _, _ => none
  | _ => some st
theorem step_R (st : List (Int × Int × Int) × List Int) (l d s : Int) (h1 : -999999 ≤ l ∧ l ≤ 999999) (h2 : -999999 ≤ d ∧ d ≤ 999999) (h3 : -999999 ≤ s ∧ s ≤ 999999) : specStep st (lineR l d s) = some (st.1 ++ [(l, d, s)], st.2) := by
  unfold specStep
  rw [words_R]
  simp only [rdO_num l h1.1 h1.2, rdO_num d h2.1 h2.2, rdO_num s h3.1 h3.2]
theorem step_L (st : List (Int × Int × Int) × List Int) (z : Int) (h : -999999 ≤ z ∧ z ≤ 999999) : specStep st (lineL z) = some (st.1, st.2 ++ [z]) := by
  unfold specStep
  rw [words_L]
  simp only [rdO_num z h.1 h.2, Option.map_some]
theorem getD_in {α : Type} (l : List α) (d : α) {i : Nat} (h : i < l.length) : l.getD i d = l[i] := by
  rw [List.getD_eq_getElem?_getD, List.getElem?_eq_getElem h]
  rfl
/-- The lines of a text read back. -/
theorem fold_lines (rs : List (Int × Int × Int)) (zs : List Int) (hr : ∀ r ∈ rs, (-999999 ≤ r.1 ∧ r.1 ≤ 999999) ∧ (-999999 ≤ r.2.1 ∧ r.2.1 ≤ 999999) ∧ -999999 ≤ r.2.2 ∧ r.2.2 ≤ 999999) (hz : ∀ z ∈ zs, -999999 ≤ z ∧ z ≤ 999999) :
    ∀ k, k < rs.length → k ≤ zs.length → (lines rs zs (k + 1)).foldlM specStep ([], []) = some (rs.take (k + 1), zs.take k)
  | 0, h, _ => by
    have hm := List.getElem_mem h
    obtain ⟨g1, g2, g3⟩ := hr _ hm
    rw [lines, if_pos rfl]
    simp only [lines, List.nil_append, List.foldlM_cons, List.foldlM_nil, getD_in _ _ h]
    rw [step_R _ _ _ _ g1 g2 g3]
    simp [List.take_succ_eq_append_getElem h]
  | k + 1, h, hk => by
    have ih := fold_lines rs zs hr hz k (by omega) (by omega)
    have hm := List.getElem_mem h
    obtain ⟨g1, g2, g3⟩ := hr _ hm
    have hk' : k < zs.length := by omega
    have hzm := hz _ (List.getElem_mem hk')
    rw [lines.eq_2 rs zs (k + 1), if_neg (by omega), List.foldlM_append, List.foldlM_append, ih]
    simp only [Nat.add_sub_cancel, List.foldlM_cons, List.foldlM_nil, getD_in _ _ h, getD_in _ _ hk', Option.bind_eq_bind, Option.bind_some, Option.pure_def]
    rw [step_L _ _ hzm]
    simp only [Option.bind_some]
    rw [step_R _ _ _ _ g1 g2 g3]
    simp only [Option.bind_some, List.take_succ_eq_append_getElem h, List.take_succ_eq_append_getElem hk']
theorem good_small {rs : List (Int × Int × Int)} {zs : List Int} (hg : goodW rs zs) : (∀ r ∈ rs, (-999999 ≤ r.1 ∧ r.1 ≤ 999999) ∧ (-999999 ≤ r.2.1 ∧ r.2.1 ≤ 999999) ∧ -999999 ≤ r.2.2 ∧ r.2.2 ≤ 999999) ∧ ∀ z ∈ zs, -999999 ≤ z ∧ z ≤ 999999 := by
  obtain ⟨h1, h2⟩ := goodW_all hg
  refine ⟨fun r hr => ?_, fun z hz => ?_⟩
  · obtain ⟨g1, g2, g3⟩ := h1 r hr
    omega
  · obtain ⟨j, hj, rfl⟩ := List.mem_iff_getElem.1 hz
    have := h2 j hj
    omega
/-- A good waterway's text read back by the model. -/
theorem fold_txt {rs : List (Int × Int × Int)} {zs : List Int} (hg : goodW rs zs) : ∃ L, parts (txt rs zs rs.length) 10 = L ++ [⟨#[]⟩] ∧ L.foldlM specStep ([], []) = some (rs, zs) := by
  obtain ⟨k, hk⟩ : ∃ k, rs.length = k + 1 := ⟨rs.length - 1, by have := hg.1.1; omega⟩
  have hz : zs.length = k := by have := hg.2.1; omega
  obtain ⟨hr, hz'⟩ := good_small hg
  refine ⟨lines rs zs (k + 1), by rw [hk]; exact parts_txt rs zs k, ?_⟩
  rw [fold_lines rs zs hr hz' k (by omega) (by omega), List.take_of_length_le (by omega), List.take_of_length_le (by omega)]
/-- Two good waterways of one text are one. -/
theorem txt_one {rs rs' : List (Int × Int × Int)} {zs zs' : List Int} (hg : goodW rs zs) (hg' : goodW rs' zs') (h : txt rs zs rs.length = txt rs' zs' rs'.length) : rs = rs' ∧ zs = zs' := by
  obtain ⟨L, h1, h2⟩ := fold_txt hg
  obtain ⟨L', h3, h4⟩ := fold_txt hg'
  rw [h, h3] at h1
  have e : L' = L := (List.append_inj' h1 rfl).1
  subst e
  rw [h2] at h4
  injection h4 with h4
  exact ⟨congrArg Prod.fst h4, congrArg Prod.snd h4⟩
end Go.Proofs.YtkdolpgnaabdaabDoor
