/- Chapter 2: the copy of a row of reaches. -/
import Derived.Test.YtgnopkemcgbedabWayTotal
import Derived.Test.YtgnopkemcgbedabIntS
namespace Go.Proofs.Ytgnopkemcgbedab
open Go.RowKit Go.PlainAid

theorem Try.infoReach' : (Try.prog.info? 83).map (fun i => (i.zero, i.size, i.bytes)) = some (some (.agg #[.int .i64 0, .int .i64 0, .int .i64 0]), 3, 24) := by kernel_rfl

set_option maxHeartbeats 1000000 in
/-- The copy of a slice of reaches: new memory, the same reaches. -/
theorem toRS_any (A : Option Addr) (n c B : Nat) (rs : List (Int × Int × Int)) (w : World) (hn : rs.length = n) (hm : n ≤ 1048576)
    (hB : B ≤ w.heap.size) (h : Has w B A (flat rs)) :
    Calls Try.prog 87 #[.slice A n c] w fun e w' => e = .returned (.slice (some ⟨w.heap.size, 0, none⟩) n n) ∧
      w'.ownsRow w.heap.size 83 3 (.slice (some ⟨w.heap.size, 0, none⟩) n n) n (flat rs) ∧ Below w.heap.size w w' := by
  obtain ⟨i0, hi, hz0, hz1, hz2⟩ := info_parts Try.infoReach'
  have CT := Lib.hid (fun l d s W => toReach_any l d s W)
  have HL := Lib.hid hn
  have H := Lib.hid h
  clear hn h
  go_enter Try.func87, Try.ntmps87
  go_wp2_with (at_make; refine wpList_make_full _ rfl _ _ 24 rfl w.heap.size 83 i0 (.agg #[.int .i64 0, .int .i64 0, .int .i64 0]) 3 Try.underlying24 hi hz0 hz1 _ _ _ _ n rfl rfl rfl rfl ?b2 ?b3 (Nat.le_refl _) ?_)
  case b2 => rw [hz2]; omega
  case b3 => unfold maxLen; omega
  intro w0 hown0 hgrow0
  have hb0 : Below w.heap.size w w0 := (Below.refl _ _).grown hgrow0 (Nat.le_refl _) (fun k h => by cases h)
  clear hgrow0
  go_wp2
  go_loopw [4] (fun i wr => ∃ (k : Nat) (xs : List Value), k ≤ n ∧ i = .int .i64 k ∧ wr.ownsRow w.heap.size 83 3 (.slice (some ⟨w.heap.size, 0, none⟩) n n) n xs ∧ Hid (xs.take (k * 3) = (flat rs).take (k * 3)) ∧ Below w.heap.size w wr)
    (fun i _ => n - (intOf i).toNat)
  case atStart => exact ⟨0, _, Nat.zero_le _, rfl, hown0, Lib.hid (by simp), hb0⟩
  case round =>
    obtain ⟨k, xs, hk, rfl, hown, hx, hb⟩ := hrel
    by_cases hlt : k < n
    · have hkl : k < rs.length := by rw [HL.out]; exact hlt
      obtain ⟨a1, rfl, hb1, e0, e1, e2⟩ := (H.out.below (hb.mono hB)).reachAt hkl
      obtain ⟨f1, f2⟩ := reach_forms e1 e2
      have HU := Lib.hid (flat_at rs k hkl)
      generalize (rs[k]'hkl).1 = l at e0 HU
      generalize (rs[k]'hkl).2.1 = d at f1 e1 HU
      generalize (rs[k]'hkl).2.2 = s at f2 e2 HU
      have HT : Hid ((((xs.set (k * 3) (.int .i64 l)).set (k * 3 + 1) (.int .i64 d)).set (k * 3 + 2) (.int .i64 s)).take ((k + 1) * 3) = (flat rs).take ((k + 1) * 3)) := Lib.hid (by
        have hxl : xs.length = n * 3 := hown.1
        have e : (k + 1) * 3 = k * 3 + 2 + 1 := by omega
        rw [e]
        exact take_set_succ _ _ (k * 3 + 2) _ (by simp; omega) HU.out.2.2 (take_set_succ _ _ (k * 3 + 1) _ (by simp; omega) HU.out.2.1 (take_set_succ _ _ (k * 3) _ (by omega) HU.out.1 hx.out)))
      have HOwn := Lib.hid hown
      have HB := Lib.hid hb
      have hk0 : (0 : Int) ≤ (k : Int) := by omega
      have hk1 : (k : Int) < (n : Int) := by omega
      clear e1 e2 hown hb hx HU
      go_wp2_with fail
      refine (CT.out l d s _).mono ?_
      rintro e w2 ⟨rfl, hb2⟩
      have hg2 := grownBelow hb2 none
      have HOwn2 := Lib.hid (HOwn.out.kept hg2 (.inr (by simp [Value.ownBlock])))
      have hxl : xs.length = n * 3 := HOwn2.out.1
      obtain ⟨v0, g0⟩ : ∃ v, w2.cell? ⟨w.heap.size, k * 3, none⟩ = some v := ⟨_, (HOwn2.out.cellAt _ (by omega)).trans (List.getElem?_eq_getElem (by omega))⟩
      obtain ⟨v1, g1⟩ : ∃ v, w2.cell? ⟨w.heap.size, k * 3 + 1, none⟩ = some v := ⟨_, (HOwn2.out.cellAt _ (by omega)).trans (List.getElem?_eq_getElem (by omega))⟩
      obtain ⟨v2, g2⟩ : ∃ v, w2.cell? ⟨w.heap.size, k * 3 + 2, none⟩ = some v := ⟨_, (HOwn2.out.cellAt _ (by omega)).trans (List.getElem?_eq_getElem (by omega))⟩
      have r0 := HOwn2.out.frozenAt (k * 3)
      have r1 := HOwn2.out.frozenAt (k * 3 + 1)
      have r2 := HOwn2.out.frozenAt (k * 3 + 2)
      have HB2 := Lib.hid (HB.out.trans (hb2.mono HB.out.size))
      clear hg2 hb2 e0 f1 f2 hxl
      go_wp2_with fail
      have s0 := HOwn2.out.stored (k * 3) (.int .i64 l)
      have s1 := s0.1.stored (k * 3 + 1) (.int .i64 d)
      have s2 := s1.1.stored (k * 3 + 2) (.int .i64 s)
      refine ⟨⟨k + 1, _, by omega, by go_num, s2.1, HT, ?_⟩, by simp [intOf]; omega⟩
      exact ((HB2.out.setCell (p := ⟨w.heap.size, k * 3, none⟩) (Nat.le_refl _) _).setCell (p := ⟨w.heap.size, k * 3 + 1, none⟩) (Nat.le_refl _) _).setCell (p := ⟨w.heap.size, k * 3 + 2, none⟩) (Nat.le_refl _) _
    · obtain rfl : k = n := by omega
      have hxl : xs.length = k * 3 := hown.1
      have hall : xs = flat rs := by
        have := hx.out
        rwa [List.take_of_length_le (by omega), List.take_of_length_le (by rw [flat_len, HL.out]; omega)] at this
      subst hall
      clear H hxl hx
      go_wp2
      go_ret
      exact ⟨rfl, hown, hb⟩
end Go.Proofs.Ytgnopkemcgbedab
