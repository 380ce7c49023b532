/- Chapter 2: reading a waterway's text: what both sides answer; both readings as plain words. -/
import Derived.Test.YtkdolpgnaabdaabDoorSplWd
import Derived.Test.YtkdolpgnaabdaabDoorWayPaM
import Derived.Test.YtkdolpgnaabdaabDoorSplit2
import Derived.Test.YtkdolpgnaabdaabDoorWayTx2
namespace Go.Proofs.YtkdolpgnaabdaabDoor
open Go.RowKit Go.PlainAid Go.Sort
set_option linter.unusedVariables false
set_option linter.unusedSimpArgs false

/-- What ParseWaterway answers. -/
structure ParsedW (t : ByteArray) (R : List (Int × Int × Int)) (Z : List Int) (x : Bool) : Prop where
  yes : ∀ rs zs, goodW rs zs → txt rs zs rs.length = t → R = rs ∧ Z = zs ∧ x = true
  no : (∀ rs zs, goodW rs zs → txt rs zs rs.length ≠ t) → R = [] ∧ Z = [] ∧ x = false
theorem parsedW_ex (t : ByteArray) : ∃ R Z x, ParsedW t R Z x := by
  rcases Classical.em (∃ rs zs, goodW rs zs ∧ txt rs zs rs.length = t) with ⟨rs, zs, hg, he⟩ | h
  · exact ⟨rs, zs, true, ⟨fun rs' zs' hg' he' => by obtain ⟨h1, h2⟩ := txt_one hg hg' (he.trans he'.symm); exact ⟨h1, h2, rfl⟩, fun k => absurd he (k rs zs hg)⟩⟩
  · exact ⟨[], [], false, ⟨fun rs zs hg he => absurd ⟨rs, zs, hg, he⟩ h, fun _ => ⟨rfl, rfl, rfl⟩⟩⟩
theorem ParsedW.len {t : ByteArray} {R : List (Int × Int × Int)} {Z : List Int} {x : Bool} (h : ParsedW t R Z x) : R.length ≤ 6 ∧ Z.length ≤ 6 := by
  rcases Classical.em (∃ rs zs, goodW rs zs ∧ txt rs zs rs.length = t) with ⟨rs, zs, hg, he⟩ | k
  · obtain ⟨rfl, rfl, -⟩ := h.yes rs zs hg he
    exact ⟨hg.1.2, by have := hg.2.1; have := hg.1.2; omega⟩
  · obtain ⟨rfl, rfl, -⟩ := h.no (fun rs zs hg he => k ⟨rs, zs, hg, he⟩)
    simp
/-- Nothing was read that could be one. -/
theorem ParsedW.not {t : ByteArray} {R : List (Int × Int × Int)} {Z : List Int} {x : Bool} (h : ParsedW t R Z x) (hn : ∀ rs zs, goodW rs zs → txt rs zs rs.length = t → False) : R = [] ∧ Z = [] ∧ x = false := h.no (fun rs zs hg he => hn rs zs hg he)
theorem num3 {n : Int} (h0 : 0 ≤ n) (h1 : n ≤ 999) : (numB n).size ≤ 3 := by
  obtain ⟨x, rfl⟩ : ∃ x : Nat, n = (x : Int) := ⟨n.toNat, by omega⟩
  rw [numB_sz]
  exact nDig_le x 2 (by omega)
theorem lineR_small {l d s : Int} (h : (1 ≤ l ∧ l ≤ 100) ∧ (100 ≤ d ∧ d ≤ 900) ∧ 1 ≤ s ∧ s ≤ 20) : (lineR l d s).size ≤ 30 := by
  have := num3 (n := l) (by omega) (by omega)
  have := num3 (n := d) (by omega) (by omega)
  have := num3 (n := s) (by omega) (by omega)
  simp only [lineR, ByteArray.size_append]
  have e1 : kReach.size = 6 := by decide
  have e2 : kKm.size = 4 := by decide
  have e3 : kCm.size = 4 := by decide
  have e4 : kKmh.size = 5 := by decide
  omega
theorem txt_small {rs : List (Int × Int × Int)} {zs : List Int} (h : goodW rs zs) : ∀ k, k ≤ rs.length → (txt rs zs k).size ≤ 62 * k
  | 0, _ => Nat.le_refl 0
  | 1, hk => by
    have hr := (goodW_all h).1 _ (List.getElem_mem (show 0 < rs.length by omega))
    have := lineR_small hr
    have e : kNl.size = 1 := by decide
    rw [txt_step0 rs zs (by omega), ByteArray.size_append, ByteArray.size_append]
    have e0 : (txt rs zs 0).size = 0 := rfl
    omega
  | k + 2, hk => by
    have ih := txt_small h (k + 1) (by omega)
    have hz : k < zs.length := by have := h.2.1; omega
    have hr := (goodW_all h).1 _ (List.getElem_mem (show k + 1 < rs.length by omega))
    have hh := (goodW_all h).2 k hz
    have := lineR_small hr
    have := lineL_size (zs[k]'hz) (by omega)
    have e : kNl.size = 1 := by decide
    rw [txt_step rs zs k (by omega) hz]
    simp only [ByteArray.size_append]
    omega
theorem txt_400 {rs : List (Int × Int × Int)} {zs : List Int} {t : ByteArray} (h : goodW rs zs) (e : txt rs zs rs.length = t) : t.size ≤ 400 := by
  have := txt_small h rs.length (Nat.le_refl _)
  have := h.1.2
  rw [← e]; omega
theorem parts_ne (s : ByteArray) (v : Int) : 0 < (parts s v).length := by unfold parts; simp
theorem spl_sizeW (s : ByteArray) (v : Int) : ∀ k, k ≤ s.size → ∀ x ∈ (spl s v k).1, x.size ≤ s.size
  | 0, _, x, h => by simp [spl] at h
  | k + 1, hk, x, h => by
    have ih := spl_sizeW s v k (by omega)
    simp only [spl] at h
    split at h
    · rcases List.mem_append.1 h with h1 | h1
      · exact ih x h1
      · obtain rfl := List.mem_singleton.1 h1
        rw [ByteArray.size_extract]
        omega
    · exact ih x h
theorem parts_sizeW (s : ByteArray) (v : Int) : ∀ x ∈ parts s v, x.size ≤ s.size := by
  intro x h
  unfold parts at h
  rcases List.mem_append.1 h with h1 | h1
  · exact spl_sizeW s v _ (Nat.le_refl _) x h1
  · obtain rfl := List.mem_singleton.1 h1
    rw [ByteArray.size_extract]
    omega
theorem spl_lenW (s : ByteArray) (v : Int) : ∀ k, (spl s v k).1.length ≤ k
  | 0 => by simp [spl]
  | k + 1 => by
    have ih := spl_lenW s v k
    simp only [spl]
    split
    · simp; omega
    · omega
theorem parts_lenW (s : ByteArray) (v : Int) : (parts s v).length ≤ s.size + 1 := by
  have := spl_lenW s v s.size
  unfold parts; simp; omega
/-- The model's reading of the first k lines. -/
noncomputable def specK (ls : List ByteArray) (k : Nat) : Option (List (Int × Int × Int) × List Int) := (ls.take k).foldlM specStep ([], [])
theorem specK_zero (ls : List ByteArray) : specK ls 0 = some ([], []) := rfl
theorem specK_succ {ls : List ByteArray} {k : Nat} (h : k < ls.length) : specK ls (k + 1) = (specK ls k).bind (fun st => specStep st ls[k]) := by
  unfold specK
  rw [List.take_succ_eq_append_getElem h, List.foldlM_append]
  cases (ls.take k).foldlM specStep ([], []) with
  | none => rfl
  | some st => simp
theorem specK_none {ls : List ByteArray} {k : Nat} (h : specK ls k = none) : ∀ d, k + d ≤ ls.length → specK ls (k + d) = none
  | 0, _ => h
  | d + 1, hd => by
    rw [← Nat.add_assoc, specK_succ (by omega), specK_none h d (by omega)]
    rfl
theorem specK_txt {rs : List (Int × Int × Int)} {zs : List Int} {t : ByteArray} (hg : goodW rs zs) (e : txt rs zs rs.length = t) : specK (parts t 10) ((parts t 10).length - 1) = some (rs, zs) := by
  obtain ⟨L, h1, h2⟩ := fold_txt hg
  rw [e] at h1
  unfold specK
  rw [h1, List.length_append, List.length_singleton, Nat.add_sub_cancel, List.take_left]
  exact h2
/-- What the two numbers of words say of a line. -/
theorem specStep_2 {st : List (Int × Int × Int) × List Int} {line a b : ByteArray} (h : parts line 32 = [a, b]) : specStep st line = (rdO b).map fun z => (st.1, st.2 ++ [z]) := by unfold specStep; rw [h]
theorem specStep_7 {st : List (Int × Int × Int) × List Int} {line a b c d e f g : ByteArray} (h : parts line 32 = [a, b, c, d, e, f, g]) : specStep st line = match rdO b, rdO d, rdO f with
    | some l, some d, some s => some (st.1 ++ [(l, d, s)], st.2)
    | _, _, _ => none := by unfold specStep; rw [h]; rfl
theorem specStep_no {st : List (Int × Int × Int) × List Int} {line : ByteArray} (h2 : (parts line 32).length ≠ 2) (h7 : (parts line 32).length ≠ 7) : specStep st line = some st := by
  unfold specStep
  split
  · next h => rw [h] at h2; exact absurd rfl h2
  · next h => rw [h] at h7; exact absurd rfl h7
  · rfl
/-- The library's words of a line. -/
def wds (line : ByteArray) : List ByteArray := Lib.splitB ⟨#[32]⟩ 0 (Lib.countB line ⟨#[32]⟩) line
theorem wds_len (line : ByteArray) : (wds line).length = Lib.countB line ⟨#[32]⟩ + 1 := Lib.splitB_all ⟨#[32]⟩ (by decide) 0 _ line rfl
theorem splitB_size (sep : ByteArray) : ∀ (k : Nat) (s : ByteArray), ∀ x ∈ Lib.splitB sep 0 k s, x.size ≤ s.size
  | 0, s, x, h => by
    rw [Lib.splitB_zero] at h
    obtain rfl := List.mem_singleton.1 h
    exact Nat.le_refl _
  | k + 1, s, x, h => by
    by_cases hi : Lib.indexB s sep = -1
    · rw [Lib.splitB_miss _ _ _ _ hi] at h
      obtain rfl := List.mem_singleton.1 h
      exact Nat.le_refl _
    · unfold Lib.splitB at h
      split at h
      · obtain rfl := List.mem_singleton.1 h
        exact Nat.le_refl _
      · rcases List.mem_cons.1 h with rfl | h
        · rw [ByteArray.size_extract]; omega
        · have := splitB_size sep k _ x h
          rw [ByteArray.size_extract] at this
          omega
theorem wds_size (line : ByteArray) : ∀ x ∈ wds line, x.size ≤ line.size := splitB_size _ _ _
theorem wds_L (z : Int) : wds (lineL z) = [wLock, numB z] := by
  have N := num_no 32 (by decide) (by decide) z
  have h : ∀ x ∈ wLock :: [numB z], (32 : UInt8) ∉ x.data.toList := List.forall_mem_cons.2 ⟨by decide, List.forall_mem_cons.2 ⟨N, by simp⟩⟩
  have hs : (lineL z).data.toList = wLock.data.toList ++ (([numB z].map (·.data.toList)).map ((32 : UInt8) :: ·)).flatten := by
    simp [lineL, kLock, wLock]
  unfold wds
  rw [count_join 32 _ wLock [numB z] h hs]
  exact splitB_join 32 _ wLock [numB z] h hs
theorem wds_R (l d s : Int) : wds (lineR l d s) = [wReach, numB l, wKm, numB d, wCm, numB s, wKmh] := by
  have N := fun n => num_no 32 (by decide) (by decide) n
  have h : ∀ x ∈ wReach :: [numB l, wKm, numB d, wCm, numB s, wKmh], (32 : UInt8) ∉ x.data.toList := List.forall_mem_cons.2 ⟨by decide, List.forall_mem_cons.2 ⟨N l, List.forall_mem_cons.2 ⟨by decide, List.forall_mem_cons.2 ⟨N d, List.forall_mem_cons.2 ⟨by decide, List.forall_mem_cons.2 ⟨N s, List.forall_mem_cons.2 ⟨by decide, by simp⟩⟩⟩⟩⟩⟩⟩
  have hs : (lineR l d s).data.toList = wReach.data.toList ++ (([numB l, wKm, numB d, wCm, numB s, wKmh].map (·.data.toList)).map ((32 : UInt8) :: ·)).flatten := by
    simp [lineR, kReach, kKm, kCm, kKmh, wReach, wKm, wCm, wKmh]
  unfold wds
  rw [count_join 32 _ wReach _ h hs]
  exact splitB_join 32 _ wReach _ h hs
/-- The number at a word. -/
noncomputable def wd (line : ByteArray) (j : Nat) : Option Int := ((wds line)[j]?).bind rdO
/-- One line read by the program. -/
noncomputable def implStep (i : Nat) (st : List (Int × Int × Int) × List Int) (line : ByteArray) : Option (List (Int × Int × Int) × List Int) :=
  if i % 2 = 1 then (wd line 1).map fun z => (st.1, st.2 ++ [z]) else match wd line 1, wd line 3, wd line 5 with
    | some l, some d, some s => some (st.1 ++ [(l, d, s)], st.2)
    | _, _, _ => none
noncomputable def implK (ls : List ByteArray) : Nat → Option (List (Int × Int × Int) × List Int)
  | 0 => some ([], [])
  | k + 1 => (implK ls k).bind fun st => implStep k st (ls.getD k ⟨#[]⟩)
theorem implK_none {ls : List ByteArray} {k : Nat} (h : implK ls k = none) : ∀ d, implK ls (k + d) = none
  | 0 => h
  | d + 1 => by rw [← Nat.add_assoc, implK, implK_none h d]; rfl
theorem implStep_L (i : Nat) (hi : i % 2 = 1) (st : List (Int × Int × Int) × List Int) (z : Int) (h : -999999 ≤ z ∧ z ≤ 999999) : implStep i st (lineL z) = some (st.1, st.2 ++ [z]) := by
  unfold implStep wd
  rw [if_pos hi, wds_L]
  simp [rdO_num z h.1 h.2]
theorem implStep_R (i : Nat) (hi : ¬ i % 2 = 1) (st : List (Int × Int × Int) × List Int) (l d s : Int) (h1 : -999999 ≤ l ∧ l ≤ 999999) (h2 : -999999 ≤ d ∧ d ≤ 999999) (h3 : -999999 ≤ s ∧ s ≤ 999999) : implStep i st (lineR l d s) = some (st.1 ++ [(l, d, s)], st.2) := by
  unfold implStep wd
  rw [if_neg hi, wds_R]
  simp [rdO_num l h1.1 h1.2, rdO_num d h2.1 h2.2, rdO_num s h3.1 h3.2]
theorem implK_lines {rs : List (Int × Int × Int)} {zs : List Int} (hr : ∀ r ∈ rs, (-999999 ≤ r.1 ∧ r.1 ≤ 999999) ∧ (-999999 ≤ r.2.1 ∧ r.2.1 ≤ 999999) ∧ -999999 ≤ r.2.2 ∧ r.2.2 ≤ 999999) (hz : ∀ z ∈ zs, -999999 ≤ z ∧ z ≤ 999999) {K : Nat} (hK : rs.length = K + 1) (hZ : zs.length = K) (ls : List ByteArray)
    (he : ∀ j, j ≤ K → ls.getD (2 * j) ⟨#[]⟩ = lineR (rs.getD j (0, 0, 0)).1 (rs.getD j (0, 0, 0)).2.1 (rs.getD j (0, 0, 0)).2.2) (ho : ∀ j, j < K → ls.getD (2 * j + 1) ⟨#[]⟩ = lineL (zs.getD j 0)) :
    ∀ j, j ≤ K → implK ls (2 * j + 1) = some (rs.take (j + 1), zs.take j)
  | 0, h => by
    have hm : rs.getD 0 (0, 0, 0) ∈ rs := by rw [getD_in _ _ (show 0 < rs.length by omega)]; exact List.getElem_mem _
    obtain ⟨g1, g2, g3⟩ := hr _ hm
    have e0 := he 0 (by omega)
    rw [Nat.mul_zero] at e0
    show (implK ls 0).bind (fun st => implStep 0 st (ls.getD 0 ⟨#[]⟩)) = _
    rw [e0, implK, Option.bind_some, implStep_R 0 (by decide) _ _ _ _ g1 g2 g3]
    rw [List.take_succ_eq_append_getElem (by omega), getD_in _ _ (show 0 < rs.length by omega)]
    simp
  | j + 1, h => by
    have ih := implK_lines hr hz hK hZ ls he ho j (by omega)
    have hj : j < zs.length := by omega
    have hj2 : j + 1 < rs.length := by omega
    have hzm := hz _ (show zs.getD j 0 ∈ zs by rw [getD_in _ _ hj]; exact List.getElem_mem _)
    have hm : rs.getD (j + 1) (0, 0, 0) ∈ rs := by rw [getD_in _ _ hj2]; exact List.getElem_mem _
    obtain ⟨g1, g2, g3⟩ := hr _ hm
    rw [show 2 * (j + 1) + 1 = (2 * j + 1) + 1 + 1 by omega, implK, implK, ih, Option.bind_some, ho j (by omega), implStep_L _ (by omega) _ _ hzm, Option.bind_some, show 2 * j + 1 + 1 = 2 * (j + 1) by omega, he (j + 1) h, implStep_R _ (by omega) _ _ _ _ g1 g2 g3]
    rw [List.take_succ_eq_append_getElem hj2, List.take_succ_eq_append_getElem hj, getD_in _ _ hj2, getD_in _ _ hj]
theorem implK_txt {rs : List (Int × Int × Int)} {zs : List Int} {t : ByteArray} (hg : goodW rs zs) (e : txt rs zs rs.length = t) : implK (parts t 10) ((parts t 10).length - 1) = some (rs, zs) := by
  obtain ⟨K, hK⟩ : ∃ K, rs.length = K + 1 := ⟨rs.length - 1, by have := hg.1.1; omega⟩
  have hZ : zs.length = K := by have := hg.2.1; omega
  obtain ⟨hr, hz⟩ := good_small hg
  have hp : parts t 10 = lines rs zs (K + 1) ++ [⟨#[]⟩] := by rw [← e, hK]; exact parts_txt rs zs K
  have hl := lines_len rs zs K
  have := implK_lines hr hz hK hZ (parts t 10) (fun j hj => by
    rw [hp, List.getD_eq_getElem?_getD, List.getElem?_append_left (by omega), lines_even rs zs K j hj]; rfl) (fun j hj => by
    rw [hp, List.getD_eq_getElem?_getD, List.getElem?_append_left (by omega), lines_odd rs zs K j hj]; rfl) K (Nat.le_refl _)
  rw [show (parts t 10).length - 1 = 2 * K + 1 by rw [hp, List.length_append, hl]; simp, this, List.take_of_length_le (by omega), List.take_of_length_le (by omega)]
/-- What the program's reading of a word answers. -/
theorem implRd_any (s : ByteArray) (hs : s.size ≤ 1048576) (W : World) (ht : Tab W) (he : Errs W) : Calls Tryd.prog 25 #[.string s] W fun e w' => e = .returned (.tuple #[.int .i64 ((rdO s).getD 0), .bool (rdO s).isSome]) ∧ Below W.heap.size W w' := by
  cases e : rdO s with
  | none => exact implParse_no s W (by omega) (rdO_none e) ht he
  | some n =>
    obtain ⟨h0, h1, h2⟩ := rdO_some e
    exact implParse_ok n s W (by omega) h0 h1 h2 ht
end Go.Proofs.YtkdolpgnaabdaabDoor
