/- Chapter 3: the given tests' marks in a row of vessels: written, and found again. -/
import Derived.Test.YtmnagjjpncancabVesV
import Derived.Test.YtmnagjjpncancabMark
import Derived.BigQuiet
namespace Go.Proofs.Ytmnagjjpncancab
open Go.RowKit Go.PlainAid Go.Sort

/-- n vessels of marks from m on. -/
def mkV (m : Int) (n : Nat) : List Ves := (List.range n).map fun (j : Nat) => ⟨m + 6 * (j : Int), markB (m + 6 * (j : Int) + 1), m + 6 * (j : Int) + 1 + 1, m + 6 * (j : Int) + 1 + 1 + 1, m + 6 * (j : Int) + 1 + 1 + 1 + 1, m + 6 * (j : Int) + 1 + 1 + 1 + 1 + 1⟩
theorem mkV_len (m : Int) (n : Nat) : (mkV m n).length = n := by simp [mkV]
theorem mkV_at (m : Int) (n k : Nat) (h : k < n) : (mkV m n)[k]'(by rw [mkV_len]; exact h) = ⟨m + 6 * (k : Int), markB (m + 6 * (k : Int) + 1), m + 6 * (k : Int) + 1 + 1, m + 6 * (k : Int) + 1 + 1 + 1, m + 6 * (k : Int) + 1 + 1 + 1 + 1, m + 6 * (k : Int) + 1 + 1 + 1 + 1 + 1⟩ := by simp [mkV]
theorem mkV_cells (m : Int) (n k : Nat) (h : k < n) : (flatV (mkV m n))[k * 6]? = some (.int .i64 (m + 6 * k)) ∧ (flatV (mkV m n))[k * 6 + 1]? = some (.string (markB (m + 6 * k + 1))) ∧ (flatV (mkV m n))[k * 6 + 2]? = some (.int .i64 (m + 6 * k + 1 + 1)) ∧
    (flatV (mkV m n))[k * 6 + 3]? = some (.int .i64 (m + 6 * k + 1 + 1 + 1)) ∧ (flatV (mkV m n))[k * 6 + 4]? = some (.int .i64 (m + 6 * k + 1 + 1 + 1 + 1)) ∧ (flatV (mkV m n))[k * 6 + 5]? = some (.int .i64 (m + 6 * k + 1 + 1 + 1 + 1 + 1)) := by
  have := flatV_at (mkV m n) k (by rw [mkV_len]; exact h)
  rw [mkV_at m n k h] at this
  exact this

set_option maxHeartbeats 2000000 in
theorem markVS_any (g n c base : Nat) (m : Int) (xs : List Value) (w : World) (hm0 : 0 < m) (hm1 : m + 6 * n ≤ 1000000000) (hown : w.ownsRow base 76 6 (.slice (some ⟨g, 0, none⟩) n c) n xs) :
    Calls Try.prog 13 #[.slice (some ⟨g, 0, none⟩) n c, .int .i64 m] w fun e w' => e = .returned (.int .i64 (m + 6 * n)) ∧
      w'.ownsRow base 76 6 (.slice (some ⟨g, 0, none⟩) n c) n (flatV (mkV m n)) ∧ w.grownBy w' (some g) := by
  have CM := Lib.hid (fun (q : Int) (W : World) (h0 : 0 < q) (h1 : q ≤ 1000000000) => markText_any q W h0 h1)
  go_enter Try.func13, Try.ntmps13
  go_wp2_with fail
  go_loopg [1, 5] n (fun gh q i wr => ∃ (k : Nat) (ys : List Value), k + gh = n ∧ i = .int .i64 k ∧ q = .int .i64 (m + 6 * k) ∧ wr.ownsRow base 76 6 (.slice (some ⟨g, 0, none⟩) n c) n ys ∧ Hid (ys.take (k * 6) = (flatV (mkV m n)).take (k * 6)) ∧ w.grownBy wr (some g))
  case atStart => exact ⟨0, xs, by omega, rfl, by simp, hown, Lib.hid (by simp), World.grownBy.refl _ _⟩
  case round =>
    obtain ⟨k, ys, hkg, rfl, rfl, hown, hx, hg⟩ := hrel
    cases gk with
    | succ gh =>
      have hlt : k < n := by omega
      have hk0 : (0 : Int) ≤ (k : Int) := by omega
      have hk1 : (k : Int) < (n : Int) := by omega
      have hyl : ys.length = n * 6 := hown.1
      obtain ⟨v0, g0⟩ : ∃ v, wr.cell? ⟨g, k * 6, none⟩ = some v := ⟨_, (hown.cellAt _ (by omega)).trans (List.getElem?_eq_getElem (by omega))⟩
      have r0 := hown.frozenAt (k * 6)
      have HO := Lib.hid hown
      have HG := Lib.hid hg
      have hm2 : m + 6 * (k : Int) + 6 ≤ 1000000000 := by omega
      have hm3 : 0 < m + 6 * (k : Int) := by omega
      have HT := Lib.hid (mkV_cells m n k hlt)
      have hnb : (n : Int) ≤ 1000000000 := by omega
      obtain ⟨q, hq⟩ : ∃ q, m + 6 * (k : Int) = q := ⟨_, rfl⟩
      rw [hq] at HT hm2 hm3 ⊢
      have HQ := Lib.hid hq
      have C := Lib.hid (fun W => CM.out (q + 1) W (by omega) (by omega))
      have HX : Hid (((((((ys.set (k * 6) (.int .i64 q)).set (k * 6 + 1) (.string (markB (q + 1)))).set (k * 6 + 2) (.int .i64 (q + 1 + 1))).set (k * 6 + 3) (.int .i64 (q + 1 + 1 + 1))).set (k * 6 + 4) (.int .i64 (q + 1 + 1 + 1 + 1))).set (k * 6 + 5) (.int .i64 (q + 1 + 1 + 1 + 1 + 1))).take ((k + 1) * 6) = (flatV (mkV m n)).take ((k + 1) * 6)) := Lib.hid (by
        have e : (k + 1) * 6 = k * 6 + 5 + 1 := by omega
        obtain ⟨u0, u1, u2, u3, u4, u5⟩ := HT.out
        rw [e]
        exact take_set_succ _ _ (k * 6 + 5) _ (by simp; omega) u5 (take_set_succ _ _ (k * 6 + 4) _ (by simp; omega) u4 (take_set_succ _ _ (k * 6 + 3) _ (by simp; omega) u3 (take_set_succ _ _ (k * 6 + 2) _ (by simp; omega) u2 (take_set_succ _ _ (k * 6 + 1) _ (by simp; omega) u1 (take_set_succ _ _ (k * 6) _ (by omega) u0 hx.out))))))
      generalize markB (q + 1) = mk at C HX
      clear hq hx hown hg hyl hm1 HT CM
      go_wp2_with fail
      have s0 := HO.out.stored (k * 6) (.int .i64 q)
      refine (C.out _).mono ?_
      rintro e w1 ⟨rfl, hb1⟩
      have O1 := s0.1.kept (grownBelow hb1 none) (.inr (by simp [Value.ownBlock]))
      have G1 := Lib.hid ((HG.out.trans s0.2).trans (grownBelow hb1 (some g)))
      have hyl : (ys.set (k * 6) (.int .i64 q)).length = n * 6 := O1.1
      obtain ⟨v1, g1⟩ : ∃ v, w1.cell? ⟨g, k * 6 + 1, none⟩ = some v := ⟨_, (O1.cellAt _ (by omega)).trans (List.getElem?_eq_getElem (by omega))⟩
      obtain ⟨v2, g2⟩ : ∃ v, w1.cell? ⟨g, k * 6 + 2, none⟩ = some v := ⟨_, (O1.cellAt _ (by omega)).trans (List.getElem?_eq_getElem (by omega))⟩
      obtain ⟨v3, g3⟩ : ∃ v, w1.cell? ⟨g, k * 6 + 3, none⟩ = some v := ⟨_, (O1.cellAt _ (by omega)).trans (List.getElem?_eq_getElem (by omega))⟩
      obtain ⟨v4, g4⟩ : ∃ v, w1.cell? ⟨g, k * 6 + 4, none⟩ = some v := ⟨_, (O1.cellAt _ (by omega)).trans (List.getElem?_eq_getElem (by omega))⟩
      obtain ⟨v5, g5⟩ : ∃ v, w1.cell? ⟨g, k * 6 + 5, none⟩ = some v := ⟨_, (O1.cellAt _ (by omega)).trans (List.getElem?_eq_getElem (by omega))⟩
      have r1 := O1.frozenAt (k * 6 + 1)
      have r2 := O1.frozenAt (k * 6 + 2)
      have r3 := O1.frozenAt (k * 6 + 3)
      have r4 := O1.frozenAt (k * 6 + 4)
      have r5 := O1.frozenAt (k * 6 + 5)
      have HO1 := Lib.hid O1
      clear s0 hb1 O1 hyl g0 r0 HO HG C
      go_wp2_with fail
      have s1 := HO1.out.stored (k * 6 + 1) (.string mk)
      have s2 := s1.1.stored (k * 6 + 2) (.int .i64 (q + 1 + 1))
      have s3 := s2.1.stored (k * 6 + 3) (.int .i64 (q + 1 + 1 + 1))
      have s4 := s3.1.stored (k * 6 + 4) (.int .i64 (q + 1 + 1 + 1 + 1))
      have s5 := s4.1.stored (k * 6 + 5) (.int .i64 (q + 1 + 1 + 1 + 1 + 1))
      go_roundg gh
      case rel => exact ⟨k + 1, _, by omega, by go_num, by congr 1; have := HQ.out; push_cast; omega, s5.1, HX, ((((G1.out.trans s1.2).trans s2.2).trans s3.2).trans s4.2).trans s5.2⟩
      case measure => omega
    | zero =>
      obtain rfl : k = n := by omega
      have hyl : ys.length = k * 6 := by simpa using hown.1
      have hall : ys = flatV (mkV m k) := by
        have := hx.out
        rwa [List.take_of_length_le (by omega), List.take_of_length_le (by rw [flatV_len, mkV_len]; omega)] at this
      subst hall
      clear hx hyl CM
      go_wp2
      go_ret
      exact ⟨rfl, hown, hg⟩

end Go.Proofs.Ytmnagjjpncancab
