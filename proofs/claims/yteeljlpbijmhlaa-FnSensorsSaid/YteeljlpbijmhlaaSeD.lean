/- Chapter 6: MedianOf of the model and of the program. -/
import Derived.Test.YteeljlpbijmhlaaSeT
namespace Go.Proofs.Yteeljlpbijmhlaa
open Go.RowKit Go.PlainAid Go.Sort
set_option linter.unusedVariables false
set_option linter.unusedSimpArgs false

set_option maxHeartbeats 1000000 in
theorem medSp_any (A : Option Addr) (n c B : Nat) (zs : List Int) (m : Int) (x : Bool) (hA : MedA zs m x) (w : World) (hn : zs.length = n) (hm : n ≤ 1048576) (hB : B ≤ w.heap.size) (h : Has w B A (zs.map (.int .i64))) :
    Calls Try.prog 16 #[.slice A n c] w fun e w' => e = .returned (.tuple #[.int .i64 m, .bool x]) ∧ Below w.heap.size w w' := by
  have C1 := Lib.hid (l6Triple_any A n c B zs w hn hm h)
  by_cases ht : triS zs
  · obtain ⟨rfl, rfl⟩ := hA.1 ht
    obtain rfl : n = 3 := by rw [← hn]; exact ht.1
    have C2 := Lib.hid (l6Median_any c (w := w) ⟨ht, h, hB⟩)
    rw [decide_eq_true ht] at C1
    clear hA hn hm h ht
    generalize medS zs = m at C2 ⊢
    go_enter Try.func16, Try.ntmps16
    go_wp2_with fail
    refine C1.out.mono ?_
    rintro e w1 ⟨rfl, rfl⟩
    go_wp2_with fail
    refine C2.out.mono ?_
    rintro e w1 ⟨rfl, hb⟩
    have HB := Lib.hid hb
    clear hb
    go_wp2_with fail
    refine bodyPost_ret (results_tmp2 rfl _ _ _) rfl ?_
    exact ⟨rfl, HB.out⟩
  · obtain ⟨rfl, rfl⟩ := hA.2 ht
    rw [decide_eq_false ht] at C1
    clear hA hn hm h ht
    go_enter Try.func16, Try.ntmps16
    go_wp2_with fail
    refine C1.out.mono ?_
    rintro e w1 ⟨rfl, rfl⟩
    go_wp2_with fail
    refine bodyPost_ret (results_tmp2 rfl _ _ _) rfl ?_
    exact ⟨rfl, Below.refl _ _⟩

theorem asc_med {zs ys : List Int} (ht : zs.length = 3) (hp : ys.Perm zs) (ha : AscK ys 3) : ys.getD 1 0 = medS zs := by
  match zs, ht with
  | [a, b, c], _ =>
    have hl := hp.length_eq
    match ys, hl with
    | [x, y, z], _ =>
      have h1 := ha 0 1 (by omega) (by omega)
      have h2 := ha 1 2 (by omega) (by omega)
      exact med_perm hp h1 h2

set_option maxRecDepth 100000 in
set_option maxHeartbeats 1000000 in
theorem medIm_any (A : Option Addr) (n c B : Nat) (zs : List Int) (m : Int) (x : Bool) (hA : MedA zs m x) (w : World) (hn : zs.length = n) (hm : n ≤ 1048576) (hB : B ≤ w.heap.size) (h : Has w B A (zs.map (.int .i64))) :
    Calls Try.prog 18 #[.slice A n c] w fun e w' => e = .returned (.tuple #[.int .i64 m, .bool x]) ∧ Below w.heap.size w w' := by
  have C1 := Lib.hid (areIn6_any A n c B zs w hn hm h)
  by_cases h3 : n = 3
  · subst h3
    by_cases hs : allL zs
    · have ht : triS zs := ⟨hn, hs, by omega⟩
      obtain ⟨rfl, rfl⟩ := hA.1 ht
      rw [decide_eq_true hs] at C1
      have CV := Lib.hid (values_any A 3 c w)
      have CS : Hid (Calls Try.prog 62 #[.func (.func 95) #[] #[.pointer (some ⟨w.heap.size, 0, none⟩)]] (w.alloc (.cells #[.slice A 3 c] 22)) fun e w' =>
          ∃ (g cp : Nat), e = .returned (.slice (some ⟨g, 0, none⟩) 3 cp) ∧ w'.cell? ⟨g, 1, none⟩ = some (.int .i64 (medS zs)) ∧ Below w.heap.size w w') := Lib.hid (by
        have hb0 := (Below.refl w.heap.size w).alloc (Nat.le_refl _) (.cells #[.slice A 3 c] 22)
        refine (sorted6_any w.heap.size B A c zs hn _ (by simp) (by simp; omega) (by rw [sNew]; rfl) (h.below (hb0.mono hB))).mono ?_
        rintro e w' ⟨g, cp, ys, rfl, h1, h2, h3, h4⟩
        refine ⟨g, cp, rfl, ?_, hb0.trans (h4.mono (by simp))⟩
        rw [← asc_med hn h1 h2]
        exact own_at6 h3 (by rw [h1.length_eq, hn]) (by omega))
      clear hA hn hm h ht hs
      generalize medS zs = m at CS ⊢
      go_enter Try.func18, Try.ntmps18
      go_wp2_with fail
      refine C1.out.mono ?_
      rintro e w1 ⟨rfl, rfl⟩
      go_wp2_with fail
      refine CV.out.mono ?_
      rintro e w1 ⟨rfl, rfl⟩
      go_wp2_with fail
      refine CS.out.mono ?_
      rintro e w1 ⟨g, cp, rfl, hc, hb⟩
      have HB := Lib.hid hb
      clear hb
      go_wp2_with fail
      refine bodyPost_ret (results_tmp2 rfl _ _ _) rfl ?_
      exact ⟨rfl, HB.out⟩
    · obtain ⟨rfl, rfl⟩ := hA.2 (fun ht => hs ht.2.1)
      rw [decide_eq_false hs] at C1
      clear hA hn hm h hs
      go_enter Try.func18, Try.ntmps18
      go_wp2_with fail
      refine C1.out.mono ?_
      rintro e w1 ⟨rfl, rfl⟩
      go_wp2_with fail
      refine bodyPost_ret (results_tmp2 rfl _ _ _) rfl ?_
      exact ⟨rfl, Below.refl _ _⟩
  · obtain ⟨rfl, rfl⟩ := hA.2 (fun ht => h3 (by rw [← hn]; exact ht.1))
    have hb : ((n : Int) != 3) = true := by rw [bne_iff_ne]; omega
    clear hA hn h C1
    go_enter Try.func18, Try.ntmps18
    go_wp2_with fail
    refine bodyPost_ret (results_tmp2 rfl _ _ _) rfl ?_
    exact ⟨rfl, Below.refl _ _⟩
end Go.Proofs.Yteeljlpbijmhlaa
