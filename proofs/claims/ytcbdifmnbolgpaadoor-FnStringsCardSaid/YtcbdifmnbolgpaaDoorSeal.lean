/- Appending and verifying a checksum: both functions as contracts. -/
import Derived.Test.YtcbdifmnbolgpaaDoorParse
import Derived.Test.YtcbdifmnbolgpaaDoorCk
import Derived.Test.YtcbdifmnbolgpaaDoorJoin
import Derived.Test.YtcbdifmnbolgpaaDoorSplit2
namespace Go.Proofs.YtcbdifmnbolgpaaDoor
open Go.RowKit Go.PlainAid

def markC : ByteArray := ⟨#[35]⟩
/-- A string with its checksum. -/
def seal_ (s : ByteArray) : ByteArray := s ++ markC ++ numB (cks s s.size)
theorem num_nomark (n : Int) : 0 ≤ n → ¬ holdsB (numB n) 35 := by
  intro h0
  obtain ⟨x, rfl⟩ : ∃ x : Nat, n = (x : Int) := ⟨n.toNat, by omega⟩
  rintro ⟨j, hj, e⟩
  obtain ⟨c, hc, e2⟩ := bt_mem _ j hj
  rw [numB_data] at hc
  have := dig_dec x c hc
  omega
theorem mark_bt : bt markC 0 = 35 := by decide +kernel
theorem mark_size : markC.size = 1 := rfl
/-- What may be sealed. -/
def goodA (s : ByteArray) : Prop := s.size ≤ 4000 ∧ ¬ holdsB s 35 ∧ (seal_ s).size ≤ 4000
theorem cat_two (s : ByteArray) : catB markC [s, numB (cks s s.size)] = seal_ s := rfl
theorem good_iff (s : ByteArray) (h : s.size ≤ 4000) : goodJ markC [s, numB (cks s s.size)] ↔ goodA s := by
  have hn := num_nomark (cks s s.size) (cks_bd s _).1
  unfold goodJ goodA
  rw [cat_two, mark_bt]
  constructor
  · rintro ⟨_, _, h1, h2⟩; exact ⟨h, h1 s (by simp), h2⟩
  · rintro ⟨_, h1, h2⟩
    refine ⟨mark_size, by simp, ?_, h2⟩
    intro x hx
    rcases List.mem_cons.1 hx with rfl | hx
    · exact h1
    · have : x = numB (cks s s.size) := by simpa using hx
      rw [this]; exact hn

set_option maxHeartbeats 400000 in
theorem seal_any (s : ByteArray) (w : World) (hm : s.size ≤ 1048576) :
    Calls Tryd.prog 34 #[.string s] w fun e w' => e = .returned (.string (seal_ s)) ∧ Drawn w w' := by
  obtain ⟨b0, b1⟩ := cks_bd s s.size
  have hns := numB_size (cks s s.size) (by omega) (by omega)
  have HS : Hid (seal_ s = s ++ markC ++ numB (cks s s.size)) := Lib.hid rfl
  have HN := Lib.hid (fun (W : World) => num_any (cks s s.size) W (by omega) (by omega))
  have HC := Lib.hid (fun (W : World) => specSum s W (by unfold maxLen; omega))
  generalize seal_ s = R at HS ⊢
  generalize cks s s.size = c at *
  generalize numB c = d at *
  go_enter Tryd.func34, Tryd.ntmps34
  go_wp2_with fail
  refine (HC.out _).mono ?_
  rintro e w1 ⟨rfl, rfl⟩
  go_wp2_with fail
  refine (HN.out _).mono ?_
  rintro e w1 ⟨rfl, hD⟩
  go_wp2_with fail
  go_ret
  exact ⟨ret_str (by rw [HS.out]; rfl), hD⟩

set_option maxHeartbeats 400000 in
theorem specApp_ok (s : ByteArray) (w : World) (hg : goodA s) :
    Calls Tryd.prog 17 #[.string s] w fun e w' => e = .returned (.tuple #[.string (seal_ s), .bool true]) ∧ Drawn w w' := by
  obtain ⟨h0, h1, h2⟩ := hg
  have HN := Lib.hid h1
  have HS := Lib.hid (fun (W : World) => seal_any s W (by omega))
  have hd0 : decide ((4000 : Int) < (s.size : Int)) = false := by simp; omega
  clear h1
  generalize seal_ s = R at *
  have hd1 : decide ((4000 : Int) < (R.size : Int)) = false := by simp; omega
  go_enter Tryd.func17, Tryd.ntmps17
  go_wp2_with fail
  refine (stands_no s 35 _ (by unfold maxLen; omega) HN.out).mono ?_
  rintro e w1 ⟨rfl, rfl⟩
  go_wp2_with fail
  refine (HS.out _).mono ?_
  rintro e w1 ⟨rfl, hD⟩
  go_wp2_with fail
  refine (HS.out _).mono ?_
  rintro e w2 ⟨rfl, hD2⟩
  go_wp2_with fail
  go_ret2
  exact ⟨rfl, hD.trans hD2⟩

set_option maxHeartbeats 400000 in
theorem specApp_no (s : ByteArray) (w : World) (hm : s.size ≤ 1048576) (hg : ¬ goodA s) :
    Calls Tryd.prog 17 #[.string s] w fun e w' => e = .returned (.tuple #[.string ⟨#[]⟩, .bool false]) ∧ Drawn w w' := by
  by_cases h0 : 4000 < s.size
  · have hd0 : decide ((4000 : Int) < (s.size : Int)) = true := by simp; omega
    clear hg
    go_enter Tryd.func17, Tryd.ntmps17
    go_wp2_with fail
    go_ret2
    exact ⟨rfl, Drawn.refl _⟩
  have hd0 : decide ((4000 : Int) < (s.size : Int)) = false := by simp; omega
  by_cases h1 : holdsB s 35
  · have HN := Lib.hid h1
    clear hg h1
    go_enter Tryd.func17, Tryd.ntmps17
    go_wp2_with fail
    refine (stands_yes s 35 _ (by unfold maxLen; omega) HN.out).mono ?_
    rintro e w1 ⟨rfl, rfl⟩
    go_wp2_with fail
    go_ret2
    exact ⟨rfl, Drawn.refl _⟩
  · have hbig : 4000 < (seal_ s).size := by
      rcases Nat.lt_or_ge 4000 (seal_ s).size with h | h
      · exact h
      · exact absurd ⟨by omega, h1, h⟩ hg
    have HN := Lib.hid h1
    have HS := Lib.hid (fun (W : World) => seal_any s W hm)
    clear hg h1
    generalize seal_ s = R at *
    have hd1 : decide ((4000 : Int) < (R.size : Int)) = true := by simp; omega
    go_enter Tryd.func17, Tryd.ntmps17
    go_wp2_with fail
    refine (stands_no s 35 _ (by unfold maxLen; omega) HN.out).mono ?_
    rintro e w1 ⟨rfl, rfl⟩
    go_wp2_with fail
    refine (HS.out _).mono ?_
    rintro e w1 ⟨rfl, hD⟩
    go_wp2_with fail
    go_ret2
    exact ⟨rfl, hD⟩

theorem has_two (w : World) (a b : ByteArray) (t : TypeId) : Has (w.alloc (.cells #[.string a, .string b] t)) (w.heap.size + 1) (some ⟨w.heap.size, 0, none⟩) ([a, b].map .string) := by
  intro k u hu
  refine ⟨_, rfl, Nat.lt_succ_self _, ?_⟩
  rw [cell_two_new w _ _ t k u hu]

set_option maxHeartbeats 400000 in
theorem implApp_core (s x : ByteArray) (b : Bool) (w : World) (hm : s.size ≤ 4000) (ht : Tab w)
    (hJ : ∀ W : World, Calls Tryd.prog 32 #[.slice (some ⟨W.heap.size, 0, none⟩) 2 2, .string markC] (W.alloc (.cells #[.string s, .string (numB (cks s s.size))] 9)) fun e w' => e = .returned (.tuple #[.string x, .bool b]) ∧ Below (W.heap.size + 1) (W.alloc (.cells #[.string s, .string (numB (cks s s.size))] 9)) w') :
    Calls Tryd.prog 16 #[.string s] w fun e w' => e = .returned (.tuple #[.string x, .bool b]) ∧ Below w.heap.size w w' := by
  obtain ⟨b0, b1⟩ := cks_bd s s.size
  have HJ := Lib.hid hJ
  have HT := Lib.hid ht
  have HF := Lib.hid (fun (W : World) (t : Tab W) => implFmt_ok (cks s s.size) W (by omega) (by omega) t)
  have HC := Lib.hid (fun (W : World) => implCk_ok s W hm)
  clear hJ ht
  generalize cks s s.size = c at *
  generalize numB c = d at *
  go_enter Tryd.func16, Tryd.ntmps16
  go_wp2_with fail
  refine (HC.out _).mono ?_
  rintro e w1 ⟨rfl, rfl⟩
  go_wp2_with fail
  refine (HF.out _ HT.out).mono ?_
  rintro e w1 ⟨rfl, hb1⟩
  go_wp2_with fail
  refine (HJ.out _).mono ?_
  rintro e w2 ⟨rfl, hb2⟩
  have hbb := (hb1.alloc hb1.size (.cells #[.string s, .string d] 9)).trans (hb2.mono (by have := hb1.size; omega))
  clear hb1 hb2
  go_wp2_with fail
  go_ret2
  exact ⟨rfl, hbb⟩

theorem implApp_ok (s : ByteArray) (w : World) (hg : goodA s) (ht : Tab w) :
    Calls Tryd.prog 16 #[.string s] w fun e w' => e = .returned (.tuple #[.string (seal_ s), .bool true]) ∧ Below w.heap.size w w' :=
  implApp_core s (seal_ s) true w hg.1 ht (fun W => by
    have h := implJoin_ok (some ⟨W.heap.size, 0, none⟩) 2 2 (W.heap.size + 1) [s, numB (cks s s.size)] markC (W.alloc (.cells #[.string s, .string (numB (cks s s.size))] 9)) rfl (by unfold maxLen; omega) (by simp) ((good_iff s hg.1).2 hg) (has_two W _ _ _)
    rw [cat_two] at h
    exact h.mono fun e w' ⟨he, hb⟩ => ⟨he, by simpa using hb⟩)

set_option maxHeartbeats 400000 in
theorem implApp_no (s : ByteArray) (w : World) (hm : s.size ≤ 1048576) (hg : ¬ goodA s) (ht : Tab w) :
    Calls Tryd.prog 16 #[.string s] w fun e w' => e = .returned (.tuple #[.string ⟨#[]⟩, .bool false]) ∧ Below w.heap.size w w' := by
  by_cases h0 : s.size ≤ 4000
  · have hd := numB_size (cks s s.size) (by have := cks_bd s s.size; omega) (by have := cks_bd s s.size; omega)
    exact implApp_core s ⟨#[]⟩ false w h0 ht (fun W => by
      have h := implJoin_no (some ⟨W.heap.size, 0, none⟩) 2 2 (W.heap.size + 1) [s, numB (cks s s.size)] markC (W.alloc (.cells #[.string s, .string (numB (cks s s.size))] 9)) rfl (by unfold maxLen; omega) (by simp) (by rw [mark_size]; omega) (by
        intro x hx
        rcases List.mem_cons.1 hx with rfl | hx
        · omega
        · have : x = numB (cks s s.size) := by simpa using hx
          rw [this]; omega) (fun hj => hg ((good_iff s h0).1 hj)) (has_two W _ _ _)
      exact h.mono fun e w' ⟨he, hb⟩ => ⟨he, by simpa using hb⟩)
  · have HC := Lib.hid (fun (W : World) => implCk_no s W (by omega) (by unfold maxLen; omega))
    clear hg ht
    go_enter Tryd.func16, Tryd.ntmps16
    go_wp2_with fail
    refine (HC.out _).mono ?_
    rintro e w1 ⟨rfl, rfl⟩
    go_wp2_with fail
    go_ret2
    exact ⟨rfl, Below.refl _ _⟩
end Go.Proofs.YtcbdifmnbolgpaaDoor
