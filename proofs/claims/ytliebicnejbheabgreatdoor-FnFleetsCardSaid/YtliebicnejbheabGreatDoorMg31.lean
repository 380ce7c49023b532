/- Texts that are joined: VesPI. -/
import Derived.Test.YtliebicnejbheabGreatDoorMg30
import Derived.Lib.IndexLaws
/- Chapter 3: a text cut at a byte; the program's reading of a number in one word. -/
namespace Go.Proofs.YtliebicnejbheabGreatDoor
open Go.RowKit Go.PlainAid Go.Sort

set_option maxHeartbeats 1000000 in
/-- strings.Cut at the letter x: what lies before it and behind it. -/
theorem cut_any (s : ByteArray) (hs : s.size ≤ 1048576) : ∃ (a b : ByteArray) (f : Bool), a.size ≤ 1048576 ∧ b.size ≤ 1048576 ∧ (∀ l w0 : Int, s = wLW l w0 → a = numB l ∧ b = numB w0) ∧
    ∀ W, Calls Tryz.prog 29 #[.string s, .string ⟨#[120]⟩] W fun e w' => e = .returned (.tuple #[.string a, .string b, .bool f]) ∧ Drawn W w' := by
  obtain ⟨o, ho⟩ : ∃ o, Lib.indexByte s.data.toList 120 = o := ⟨_, rfl⟩
  have CI := Lib.hid (fun W => by have := Tryz.stringslite_Index_one s 120 W; rw [ho] at this; exact this)
  have hge := Lib.indexByte_ge s.data.toList 120
  rw [ho] at hge
  by_cases h0 : 0 ≤ o
  · obtain ⟨k, rfl⟩ : ∃ k : Nat, o = (k : Int) := ⟨o.toNat, by omega⟩
    obtain ⟨hk, hfst⟩ := Lib.indexByte_some ho
    have hkl : k < s.size := by
      have := (List.getElem?_eq_some_iff.1 hk).1
      simpa using this
    refine ⟨s.extract 0 k, s.extract (k + 1) s.size, true, by rw [ByteArray.size_extract]; omega, by rw [ByteArray.size_extract]; omega, fun l w0 e => ?_, fun W => ?_⟩
    · have hl : (numB l).size = k := by
        have e1 : s.data.toList = (numB l).data.toList ++ 120 :: (numB w0).data.toList := by rw [e]; simp [wLW, kXx]
        rcases Nat.lt_trichotomy (numB l).size k with h1 | h1 | h1
        · exact absurd (by rw [e1, List.getElem?_append_right (by simp)]; simp) (hfst (numB l).size h1)
        · exact h1
        · have h2 : s.data.toList[k]? = (numB l).data.toList[k]? := by rw [e1, List.getElem?_append_left (by simpa using h1)]
          rw [h2] at hk
          exact absurd (List.mem_of_getElem? hk) (num_no 120 (by decide) (by decide) l)
      have e2 : s = numB l ++ (kXx ++ numB w0) := by rw [e]; unfold wLW; rw [ByteArray.append_assoc]
      have z1 : kXx.size = 1 := rfl
      constructor
      · apply ext_list
        rw [extract_list, e2]
        simp [← hl]
      · apply ext_list
        have hsz : s.size = k + 1 + (numB w0).size := by rw [e2, ByteArray.size_append, ByteArray.size_append, z1, hl]; omega
        rw [extract_list, hsz, e2]
        have e3 : (numB l ++ (kXx ++ numB w0)).data.toList = ((numB l).data.toList ++ [120]) ++ (numB w0).data.toList := by simp [kXx]
        rw [e3, List.drop_left' (by simp [hl])]
        rw [List.take_of_length_le (by simp)]
    · have hk1 : (k : Int) < (s.size : Int) := by omega
      have hs' : (s.size : Int) ≤ 1048576 := by omega
      have CC : Hid (∀ W, Calls Tryz.prog 53 #[.string s, .string ⟨#[120]⟩] W fun e w' => e = .returned (.tuple #[.string (s.extract 0 k), .string (s.extract (k + 1) s.size), .bool true]) ∧ Drawn W w') := Lib.hid (fun W => by
        clear hk hfst ho hge h0
        go_enter Tryz.func53, Tryz.ntmps53
        go_wp2_with fail
        refine (CI.out _).mono ?_
        rintro e w1 ⟨rfl, rfl⟩
        go_wp2_with fail
        go_quiet (fail)
        go_wp2
        refine bodyPost_ret (results_tmp3 rfl _ _ _) rfl ?_
        first | exact ⟨rfl, Drawn.one _ _⟩ | exact ⟨rfl, Drawn.refl _⟩)
      go_enter Tryz.func29, Tryz.ntmps29
      go_wp2_with fail
      refine (CC.out _).mono ?_
      rintro e w1 ⟨rfl, hD⟩
      have HD := Lib.hid hD
      clear hD CC
      go_wp2_with fail
      refine bodyPost_ret (results_tmp3 rfl _ _ _) rfl ?_
      exact ⟨rfl, HD.out⟩
  · refine ⟨s, ByteArray.empty, false, hs, by simp, fun l w0 e => absurd ho ?_, fun W => ?_⟩
    · intro e'
      have h1 : (120 : UInt8) ∈ s.data.toList := by rw [e]; simp [wLW, kXx]
      have h2 : o = -1 := by omega
      obtain ⟨i, hi, he⟩ := List.mem_iff_getElem.1 h1
      exact absurd (by rw [List.getElem?_eq_getElem hi, he]) (Lib.indexByte_none (l := s.data.toList) (c := 120) (by rw [← h2]; exact e') i)
    · have CC : Hid (∀ W, Calls Tryz.prog 53 #[.string s, .string ⟨#[120]⟩] W fun e w' => e = .returned (.tuple #[.string s, .string ByteArray.empty, .bool false]) ∧ Drawn W w') := Lib.hid (fun W => by
        clear hge ho
        go_enter Tryz.func53, Tryz.ntmps53
        go_wp2_with fail
        refine (CI.out _).mono ?_
        rintro e w1 ⟨rfl, rfl⟩
        go_wp2_with fail
        refine bodyPost_ret (results_tmp3 rfl _ _ _) rfl ?_
        first | exact ⟨rfl, Drawn.one _ _⟩ | exact ⟨rfl, Drawn.refl _⟩)
      go_enter Tryz.func29, Tryz.ntmps29
      go_wp2_with fail
      refine (CC.out _).mono ?_
      rintro e w1 ⟨rfl, hD⟩
      have HD := Lib.hid hD
      clear hD CC
      go_wp2_with fail
      refine bodyPost_ret (results_tmp3 rfl _ _ _) rfl ?_
      exact ⟨rfl, HD.out⟩
end Go.Proofs.YtliebicnejbheabGreatDoor
