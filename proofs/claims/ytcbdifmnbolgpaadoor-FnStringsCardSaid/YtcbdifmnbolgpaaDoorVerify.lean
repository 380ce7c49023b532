/- Verifying a checksum: both functions as contracts. -/
import Derived.Test.YtcbdifmnbolgpaaDoorSeal
namespace Go.Proofs.YtcbdifmnbolgpaaDoor
open Go.RowKit Go.PlainAid

/-- What stands before the first mark. -/
def front (s : ByteArray) : ByteArray := (parts s 35)[0]'(parts_pos s 35)
theorem front_clean (s : ByteArray) : ¬ holdsB (front s) 35 := parts_clean s 35 _ (List.getElem_mem _)
theorem goodA_front {s : ByteArray} (hs : s.size ≤ 4000) (h : seal_ (front s) = s) : goodA (front s) := by
  refine ⟨?_, front_clean s, by rw [h]; exact hs⟩
  have h1 : (seal_ (front s)).size = (front s).size + 1 + (numB (cks (front s) (front s).size)).size := by
    unfold seal_; rw [ByteArray.size_append, ByteArray.size_append]; rfl
  have h2 := congrArg ByteArray.size h
  omega
theorem spl_sub (s : ByteArray) (v : Int) : ∀ k, k ≤ s.size → ∀ p ∈ (spl s v k).1, p.size ≤ s.size
  | 0, _ => fun p hp => by simp [spl] at hp
  | k + 1, hk => fun p hp => by
    have ih := spl_sub s v k (by omega)
    by_cases h : bt s k = v
    · rw [spl_hit h] at hp
      rcases List.mem_append.1 hp with hp | hp
      · exact ih p hp
      · have : p = s.extract (spl s v k).2 k := by simpa using hp
        rw [this, extract_size s _ _ (by omega)]; omega
    · rw [spl_miss h] at hp; exact ih p hp
theorem parts_sub (s : ByteArray) (v : Int) : ∀ p ∈ parts s v, p.size ≤ s.size := by
  intro p hp
  rcases List.mem_append.1 hp with hp | hp
  · exact spl_sub s v _ (Nat.le_refl _) p hp
  · have : p = s.extract (spl s v s.size).2 s.size := by simpa using hp
    rw [this, extract_size s _ _ (Nat.le_refl _)]; omega
theorem front_sub (s : ByteArray) : (front s).size ≤ s.size := parts_sub s 35 _ (List.getElem_mem _)
/-- The first cell of the parts' row. -/
theorem front_cell {w : World} {base g c : Nat} {s : ByteArray} {e : TypeId} (h : w.ownsRow base e 1 (.slice (some ⟨g, 0, none⟩) (parts s 35).length c) (parts s 35).length ((parts s 35).map .string)) :
    w.cell? ⟨g, 0, none⟩ = some (.string (front s)) := by
  have := h.cellAt 0 (by have := parts_pos s 35; omega)
  rw [this, List.getElem?_map, List.getElem?_eq_getElem (parts_pos s 35)]
  rfl

set_option maxHeartbeats 600000 in
theorem specVer_any (s : ByteArray) (w : World) (hs : s.size ≤ 4000) (x : ByteArray) (b : Bool)
    (hyes : seal_ (front s) = s → x = front s ∧ b = true) (hno : seal_ (front s) ≠ s → x = ⟨#[]⟩ ∧ b = false) :
    Calls Tryd.prog 20 #[.string s] w fun e w' => e = .returned (.tuple #[.string x, .bool b]) ∧ Below w.heap.size w w' := by
  have hd0 : ¬ (4000 : Int) < (s.size : Int) := by omega
  have hf := front_sub s
  have HS := Lib.hid (fun (W : World) => seal_any (front s) W (by omega))
  have HP := Lib.hid (fun (W : World) => l1Split_any s 35 W hs)
  have hp0 : (0 : Int) < ((parts s 35).length : Int) := by have := parts_pos s 35; omega
  by_cases he : seal_ (front s) = s
  · obtain ⟨rfl, rfl⟩ := hyes he
    have HE := Lib.hid he
    have hself : (s.toList == s.toList) = true := beq_self_eq_true _
    clear he hyes hno
    go_enter Tryd.func20, Tryd.ntmps20
    go_wp2_with fail
    refine (HP.out _).mono ?_
    rintro e w1 ⟨g, c, rfl, hg, hown, hb⟩
    have hc := front_cell hown
    clear hown
    go_wp2_with fail
    refine (HS.out _).mono ?_
    rintro e w2 ⟨rfl, hD⟩
    rw [HE.out]
    go_wp2_with fail
    go_ret2
    exact ⟨rfl, hb.trans (hD.below _)⟩
  · obtain ⟨rfl, rfl⟩ := hno he
    have hne := toList_ne he
    clear he hyes hno
    generalize seal_ (front s) = R at *
    go_enter Tryd.func20, Tryd.ntmps20
    go_wp2_with fail
    refine (HP.out _).mono ?_
    rintro e w1 ⟨g, c, rfl, hg, hown, hb⟩
    have hc := front_cell hown
    clear hown
    go_wp2_with fail
    refine (HS.out _).mono ?_
    rintro e w2 ⟨rfl, hD⟩
    go_wp2_with fail
    go_ret2
    exact ⟨rfl, hb.trans (hD.below _)⟩

set_option maxHeartbeats 400000 in
theorem specVer_long (s : ByteArray) (w : World) (hs : 4000 < s.size) (hm : s.size ≤ 1048576) :
    Calls Tryd.prog 20 #[.string s] w fun e w' => e = .returned (.tuple #[.string ⟨#[]⟩, .bool false]) ∧ Below w.heap.size w w' := by
  have hd0 : (4000 : Int) < (s.size : Int) := by omega
  go_enter Tryd.func20, Tryd.ntmps20
  go_wp2_with fail
  go_ret2
  exact ⟨rfl, Below.refl _ _⟩

set_option maxHeartbeats 600000 in
theorem implVer_any (s : ByteArray) (w : World) (hs : s.size ≤ 4000) (ht : Tab w) (x : ByteArray) (b : Bool)
    (hyes : seal_ (front s) = s → x = front s ∧ b = true) (hno : seal_ (front s) ≠ s → x = ⟨#[]⟩ ∧ b = false) :
    Calls Tryd.prog 18 #[.string s] w fun e w' => e = .returned (.tuple #[.string x, .bool b]) ∧ Below w.heap.size w w' := by
  have hf := front_sub s
  have HT := Lib.hid ht
  have HP := Lib.hid (fun (W : World) => (implSplit_ok s markC W hs mark_size))
  rw [mark_bt] at HP
  have hp0 : (0 : Int) < ((parts s 35).length : Int) := by have := parts_pos s 35; omega
  clear ht
  by_cases hg : goodA (front s)
  · have HA := Lib.hid (fun (W : World) (t : Tab W) => implApp_ok (front s) W hg t)
    by_cases he : seal_ (front s) = s
    · obtain ⟨rfl, rfl⟩ := hyes he
      have HE := Lib.hid he
      have hself : (s.toList == s.toList) = true := beq_self_eq_true _
      clear he hyes hno hg
      go_enter Tryd.func18, Tryd.ntmps18
      go_wp2_with fail
      refine (HP.out _).mono ?_
      rintro e w1 ⟨g, c, rfl, hg, hown, hb⟩
      have hc := front_cell hown
      have hlt := (hown.lt g rfl).2
      clear hown
      go_wp2_with fail
      refine (HA.out _ (HT.out.on hb (Nat.le_refl _))).mono ?_
      rintro e w2 ⟨rfl, hb2⟩
      rw [HE.out]
      have hc2 := (hb2.cell (p := ⟨g, 0, none⟩) hlt).trans hc
      have hbb := hb.trans (hb2.mono hb.size)
      clear hb hb2 hc
      go_wp2_with fail
      go_ret2
      exact ⟨rfl, hbb⟩
    · obtain ⟨rfl, rfl⟩ := hno he
      have hne := toList_ne he
      clear he hyes hno hg
      generalize seal_ (front s) = R at *
      go_enter Tryd.func18, Tryd.ntmps18
      go_wp2_with fail
      refine (HP.out _).mono ?_
      rintro e w1 ⟨g, c, rfl, hg, hown, hb⟩
      have hc := front_cell hown
      clear hown
      go_wp2_with fail
      refine (HA.out _ (HT.out.on hb (Nat.le_refl _))).mono ?_
      rintro e w2 ⟨rfl, hb2⟩
      have hbb := hb.trans (hb2.mono hb.size)
      clear hb hb2
      go_wp2_with fail
      go_ret2
      exact ⟨rfl, hbb⟩
  · have HA := Lib.hid (fun (W : World) (t : Tab W) => implApp_no (front s) W (by omega) hg t)
    obtain ⟨rfl, rfl⟩ := hno (fun he => hg (goodA_front hs he))
    clear hyes hno hg
    go_enter Tryd.func18, Tryd.ntmps18
    go_wp2_with fail
    refine (HP.out _).mono ?_
    rintro e w1 ⟨g, c, rfl, hg, hown, hb⟩
    have hc := front_cell hown
    clear hown
    go_wp2_with fail
    refine (HA.out _ (HT.out.on hb (Nat.le_refl _))).mono ?_
    rintro e w2 ⟨rfl, hb2⟩
    have hbb := hb.trans (hb2.mono hb.size)
    clear hb hb2
    go_wp2_with fail
    go_ret2
    exact ⟨rfl, hbb⟩

set_option maxHeartbeats 400000 in
theorem implVer_long (s : ByteArray) (w : World) (hs : 4000 < s.size) (hm : s.size ≤ 1048576) :
    Calls Tryd.prog 18 #[.string s] w fun e w' => e = .returned (.tuple #[.string ⟨#[]⟩, .bool false]) ∧ Below w.heap.size w w' := by
  have HP := Lib.hid (fun (W : World) => (implSplit_no s markC W (by unfold maxLen; omega) (by rw [mark_size]; unfold maxLen; omega) (fun h => by omega)))
  go_enter Tryd.func18, Tryd.ntmps18
  go_wp2_with fail
  refine (HP.out _).mono ?_
  rintro e w1 ⟨g, c, rfl, hg, hown, hb⟩
  clear hown
  go_wp2_with fail
  go_ret2
  exact ⟨rfl, hb⟩
end Go.Proofs.YtcbdifmnbolgpaaDoor
