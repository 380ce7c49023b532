/- Chapter 3: VesselText, the model and the program. -/
import Derived.Test.YtgadceelbeacgaaDoorVesTxI
namespace Go.Proofs.YtgadceelbeacgaaDoor
open Go.RowKit Go.PlainAid Go.Sort

theorem kind_at {q : Nat} (h : 1 ≤ q ∧ q ≤ 4) : (#[.string ⟨#[]⟩, .string ⟨#[98, 97, 114, 103, 101]⟩, .string ⟨#[116, 97, 110, 107, 101, 114]⟩, .string ⟨#[112, 97, 115, 115, 101, 110, 103, 101, 114]⟩, .string ⟨#[112, 108, 101, 97, 115, 117, 114, 101]⟩] : Array Value)[q]? = some (.string (kindB q)) := by
  obtain rfl | rfl | rfl | rfl : q = 1 ∨ q = 2 ∨ q = 3 ∨ q = 4 := by omega
  all_goals rfl
theorem has_new4 (w : World) (x y z u0 : Value) (t : TypeId) : Has (w.alloc (.cells #[x, y, z, u0] t)) (w.heap.size + 1) (some ⟨w.heap.size, 0, none⟩) [x, y, z, u0] := by
  intro k u hu
  match k, hu with
  | 0, hu => exact ⟨_, rfl, Nat.lt_succ_self _, by rw [show (⟨w.heap.size, 0, none⟩ : Addr).add 0 = ⟨w.heap.size, 0, none⟩ from rfl, vNew']; exact hu⟩
  | 1, hu => exact ⟨_, rfl, Nat.lt_succ_self _, by rw [show (⟨w.heap.size, 0, none⟩ : Addr).add 1 = ⟨w.heap.size, 1, none⟩ from rfl, vNew']; exact hu⟩
  | 2, hu => exact ⟨_, rfl, Nat.lt_succ_self _, by rw [show (⟨w.heap.size, 0, none⟩ : Addr).add 2 = ⟨w.heap.size, 2, none⟩ from rfl, vNew']; exact hu⟩
  | 3, hu => exact ⟨_, rfl, Nat.lt_succ_self _, by rw [show (⟨w.heap.size, 0, none⟩ : Addr).add 3 = ⟨w.heap.size, 3, none⟩ from rfl, vNew']; exact hu⟩
/-- The form filled with a vessel's numbers. -/
theorem fillV (i l b d : Int) (s word : ByteArray) (w : World) (hi : 0 ≤ i ∧ i ≤ 1000) (hl : 0 ≤ l ∧ l ≤ 1000) (hb : 0 ≤ b ∧ b ≤ 1000) (hd : 0 ≤ d ∧ d ≤ 1000) (hs : (63 : UInt8) ∉ s.data.toList) (hw : (63 : UInt8) ∉ word.data.toList) (hz : s.size ≤ 10) (hzw : word.size ≤ 10) (ht : Tab w) (hx : Mx w) :
    Calls Tryd.prog 32 #[.string (vform s word), .slice (some ⟨w.heap.size, 0, none⟩) 4 4] (w.alloc (.cells #[.int .i64 i, .int .i64 l, .int .i64 b, .int .i64 d] 3)) fun e w' => e = .returned (.string (vtxt i s l b d word)) ∧ Below w.heap.size w w' := by
  have hbb := (Below.refl w.heap.size w).alloc (Nat.le_refl _) (.cells #[.int .i64 i, .int .i64 l, .int .i64 b, .int .i64 d] 3)
  refine (fill_any (vform s word) [i, l, b, d] (some ⟨w.heap.size, 0, none⟩) 4 4 (w.heap.size + 1) _ rfl (by omega) (by simp) (has_new4 w (.int .i64 i) (.int .i64 l) (.int .i64 b) (.int .i64 d) 3) (by
    intro j hj
    match j, hj with
    | 0, _ => show -999999 ≤ i ∧ i ≤ 999999; omega
    | 1, _ => show -999999 ≤ l ∧ l ≤ 999999; omega
    | 2, _ => show -999999 ≤ b ∧ b ≤ 999999; omega
    | 3, _ => show -999999 ≤ d ∧ d ≤ 999999; omega) (vfill_small i l b d hi hl hb hd hs hw hz hzw) (ht.on hbb (Nat.le_refl _)) (hx.on hbb (Nat.le_refl _))).mono ?_
  rintro e w' ⟨rfl, hb'⟩
  exact ⟨by rw [vfill4 i l b d hs hw], hbb.trans (hb'.mono (by simp))⟩

set_option maxHeartbeats 1000000 in
theorem specVT_any (i : Int) (s : ByteArray) (l b d q : Int) (w : World) (hs : s.size ≤ maxLen) (T : ByteArray) (x : Bool) (hy : goodV ⟨i, s, l, b, d, q⟩ → T = vtxt i s l b d (kindB q) ∧ x = true) (hno : ¬ goodV ⟨i, s, l, b, d, q⟩ → T = ⟨#[]⟩ ∧ x = false) :
    Calls Tryd.prog 12 #[.agg #[.int .i64 i, .string s, .int .i64 l, .int .i64 b, .int .i64 d, .int .i64 q]] w fun e w' => e = .returned (.tuple #[.string T, .bool x]) ∧ Below w.heap.size w w' := by
  have C := Lib.hid (fun W => l3Good_any i s l b d q W hs)
  by_cases hg : goodV ⟨i, s, l, b, d, q⟩
  · obtain ⟨rfl, rfl⟩ := hy hg
    rw [gV_yes hg] at C
    obtain ⟨⟨i0, i1⟩, hn, ⟨l0, l1⟩, ⟨b0, b1⟩, ⟨d0, d1⟩, ⟨q0, q1⟩⟩ := hg
    dsimp only at i0 i1 hn l0 l1 b0 b1 d0 d1 q0 q1
    obtain ⟨qn, rfl⟩ : ∃ qn : Nat, q = (qn : Int) := ⟨q.toNat, by omega⟩
    have D := Lib.hid (fun W => l3Text_any i s l b d qn (kindB qn) W (by omega) (by omega) (by omega) (by omega) hn.1.2 (kind_size _) (by omega) (kind_at (by omega)))
    generalize vtxt i s l b d (kindB (qn : Int)) = T at D ⊢
    clear hy hno hn
    go_enter Tryd.func12, Tryd.ntmps12
    go_wp2_with fail
    refine (C.out _).mono ?_
    rintro e w1 ⟨rfl, hb⟩
    have HB := Lib.hid (((Below.refl _ w).alloc (Nat.le_refl _) (.cells #[.int .i64 i, .string s, .int .i64 l, .int .i64 b, .int .i64 d, .int .i64 (qn : Int)] 36)).trans (hb.mono (by simp)))
    have c0 : w1.cell? ⟨w.heap.size, 0, none⟩ = some (.int .i64 i) := (hb.cell (by simp)).trans (by rw [vNew']; rfl)
    have c1 : w1.cell? ⟨w.heap.size, 1, none⟩ = some (.string s) := (hb.cell (by simp)).trans (by rw [vNew']; rfl)
    have c2 : w1.cell? ⟨w.heap.size, 2, none⟩ = some (.int .i64 l) := (hb.cell (by simp)).trans (by rw [vNew']; rfl)
    have c3 : w1.cell? ⟨w.heap.size, 3, none⟩ = some (.int .i64 b) := (hb.cell (by simp)).trans (by rw [vNew']; rfl)
    have c4 : w1.cell? ⟨w.heap.size, 4, none⟩ = some (.int .i64 d) := (hb.cell (by simp)).trans (by rw [vNew']; rfl)
    have c5 : w1.cell? ⟨w.heap.size, 5, none⟩ = some (.int .i64 (qn : Int)) := (hb.cell (by simp)).trans (by rw [vNew']; rfl)
    clear hb C
    go_wp2_with fail
    refine (D.out _).mono ?_
    rintro e w2 ⟨rfl, hb⟩
    have HB2 := Lib.hid (HB.out.trans (hb.mono HB.out.size))
    clear hb
    go_wp2_with fail
    refine bodyPost_ret (results_tmp2 rfl _ _ _) rfl ?_
    exact ⟨rfl, HB2.out⟩
  · obtain ⟨rfl, rfl⟩ := hno hg
    rw [gV_no hg] at C
    clear hy hno hg
    go_enter Tryd.func12, Tryd.ntmps12
    go_wp2_with fail
    refine (C.out _).mono ?_
    rintro e w1 ⟨rfl, hb⟩
    have HB := Lib.hid (((Below.refl _ w).alloc (Nat.le_refl _) (.cells #[.int .i64 i, .string s, .int .i64 l, .int .i64 b, .int .i64 d, .int .i64 q] 36)).trans (hb.mono (by simp)))
    clear hb C
    go_wp2_with fail
    refine bodyPost_ret (results_tmp2 rfl _ _ _) rfl ?_
    exact ⟨rfl, HB.out⟩

set_option maxHeartbeats 2000000 in
theorem implVT_any (i : Int) (s : ByteArray) (l b d q : Int) (w : World) (hs : s.size ≤ maxLen) (T : ByteArray) (x : Bool) (hy : goodV ⟨i, s, l, b, d, q⟩ → T = vtxt i s l b d (kindB q) ∧ x = true) (hno : ¬ goodV ⟨i, s, l, b, d, q⟩ → T = ⟨#[]⟩ ∧ x = false) (ht : Tab w) (hx : Mx w) :
    Calls Tryd.prog 14 #[.agg #[.int .i64 i, .string s, .int .i64 l, .int .i64 b, .int .i64 d, .int .i64 q]] w fun e w' => e = .returned (.tuple #[.string T, .bool x]) ∧ Below w.heap.size w w' := by
  have C := Lib.hid (fun W => implGoodV_any i s l b d q W hs)
  by_cases hg : goodV ⟨i, s, l, b, d, q⟩
  · obtain ⟨rfl, rfl⟩ := hy hg
    rw [gV_yes hg] at C
    obtain ⟨⟨i0, i1⟩, hn, ⟨l0, l1⟩, ⟨b0, b1⟩, ⟨d0, d1⟩, ⟨q0, q1⟩⟩ := hg
    dsimp only at i0 i1 hn l0 l1 b0 b1 d0 d1 q0 q1
    have hsz := hn.1.2
    have hwz := kind_size q
    have D := Lib.hid (fun W (hW : Below w.heap.size w W) => fillV i l b d s (kindB q) W (by omega) (by omega) (by omega) (by omega) (no_small hn 63 (by decide)) (kind_no q 63 (by decide)) hsz hwz (ht.on hW (Nat.le_refl _)) (hx.on hW (Nat.le_refl _)))
    have E := Lib.hid (fun W => kindWord_any q W)
    have HF : Hid (vform s (kindB q) = ⟨#[63, 32]⟩ ++ s ++ ⟨#[32]⟩ ++ kindB q ++ ⟨#[32, 63, 120, 63, 32, 100, 114, 97, 117, 103, 104, 116, 32, 63]⟩) := Lib.hid rfl
    generalize vform s (kindB q) = fm at D HF
    generalize vtxt i s l b d (kindB q) = T at D ⊢
    generalize kindB q = word at E HF hwz
    clear hy hno hn ht hx
    go_enter Tryd.func14, Tryd.ntmps14
    go_wp2_with fail
    refine (C.out _).mono ?_
    rintro e w1 ⟨rfl, hb⟩
    have HB := Lib.hid (((Below.refl _ w).alloc (Nat.le_refl _) (.cells #[.int .i64 i, .string s, .int .i64 l, .int .i64 b, .int .i64 d, .int .i64 q] 36)).trans (hb.mono (by simp)))
    have c0 : w1.cell? ⟨w.heap.size, 0, none⟩ = some (.int .i64 i) := (hb.cell (by simp)).trans (by rw [vNew']; rfl)
    have E0 := fun (d : Nat) (os : Array Obj) => cell_regrown c0 d os
    have c1 : w1.cell? ⟨w.heap.size, 1, none⟩ = some (.string s) := (hb.cell (by simp)).trans (by rw [vNew']; rfl)
    have E1 := fun (d : Nat) (os : Array Obj) => cell_regrown c1 d os
    have c2 : w1.cell? ⟨w.heap.size, 2, none⟩ = some (.int .i64 l) := (hb.cell (by simp)).trans (by rw [vNew']; rfl)
    have E2 := fun (d : Nat) (os : Array Obj) => cell_regrown c2 d os
    have c3 : w1.cell? ⟨w.heap.size, 3, none⟩ = some (.int .i64 b) := (hb.cell (by simp)).trans (by rw [vNew']; rfl)
    have E3 := fun (d : Nat) (os : Array Obj) => cell_regrown c3 d os
    have c4 : w1.cell? ⟨w.heap.size, 4, none⟩ = some (.int .i64 d) := (hb.cell (by simp)).trans (by rw [vNew']; rfl)
    have E4 := fun (d : Nat) (os : Array Obj) => cell_regrown c4 d os
    have c5 : w1.cell? ⟨w.heap.size, 5, none⟩ = some (.int .i64 q) := (hb.cell (by simp)).trans (by rw [vNew']; rfl)
    have E5 := fun (d : Nat) (os : Array Obj) => cell_regrown c5 d os
    have HC := Lib.hid (fun W (hW : Below w1.heap.size w1 W) => (⟨(hW.cell (World.block_lt_of_cell? w1 _ c0)).trans c0, (hW.cell (World.block_lt_of_cell? w1 _ c1)).trans c1, (hW.cell (World.block_lt_of_cell? w1 _ c2)).trans c2, (hW.cell (World.block_lt_of_cell? w1 _ c3)).trans c3, (hW.cell (World.block_lt_of_cell? w1 _ c4)).trans c4, (hW.cell (World.block_lt_of_cell? w1 _ c5)).trans c5⟩ : W.cell? ⟨w.heap.size, 0, none⟩ = some (.int .i64 i) ∧ W.cell? ⟨w.heap.size, 1, none⟩ = some (.string s) ∧ W.cell? ⟨w.heap.size, 2, none⟩ = some (.int .i64 l) ∧ W.cell? ⟨w.heap.size, 3, none⟩ = some (.int .i64 b) ∧ W.cell? ⟨w.heap.size, 4, none⟩ = some (.int .i64 d) ∧ W.cell? ⟨w.heap.size, 5, none⟩ = some (.int .i64 q)))
    have cM := fun (dr : Nat) (os : Array Obj) => Calls.regrown_of (w := w1) (d := dr) (os := os) ((E.out _).mono fun _ _ ⟨a, b⟩ => ⟨a, b ▸ Below.refl _ _⟩)
    clear hb C c0 c1 c2 c3 c4 c5 E
    go_wp2_with fail
    refine wp_region_quiet_below (by kernel_rfl) (by kernel_rfl) ?_
    repeat (go_big_quiet_step (exact cM _ _))
    refine wpQuiet_nil ?_
    intro _ hw'
    obtain ⟨⟨dq, osq⟩, hw''⟩ := hw'
    subst hw''
    have HB2 := Lib.hid (HB.out.trans ((below_regrown w1 dq osq).mono HB.out.size))
    obtain ⟨c0, c1, c2, c3, c4, c5⟩ := HC.out _ (below_regrown w1 dq osq)
    obtain ⟨w3, hw3⟩ : ∃ w3, grow (redrawn w1 dq) osq = w3 := ⟨_, rfl⟩
    rw [hw3] at HB2 c0 c1 c2 c3 c4 c5
    simp only [hw3, ← HF.out]
    clear hw3 E0 E1 E2 E3 E4 E5 cM HC HB HF
    go_wp2_with fail
    refine (D.out _ HB2.out).mono ?_
    rintro e w4 ⟨rfl, hb⟩
    have HB4 := Lib.hid (HB2.out.trans (hb.mono HB2.out.size))
    clear hb c0 c1 c2 c3 c4 c5
    go_wp2_with fail
    refine bodyPost_ret (results_tmp2 rfl _ _ _) rfl ?_
    exact ⟨rfl, HB4.out⟩
  · obtain ⟨rfl, rfl⟩ := hno hg
    rw [gV_no hg] at C
    clear hy hno hg ht hx
    go_enter Tryd.func14, Tryd.ntmps14
    go_wp2_with fail
    refine (C.out _).mono ?_
    rintro e w1 ⟨rfl, hb⟩
    have HB := Lib.hid (((Below.refl _ w).alloc (Nat.le_refl _) (.cells #[.int .i64 i, .string s, .int .i64 l, .int .i64 b, .int .i64 d, .int .i64 q] 36)).trans (hb.mono (by simp)))
    clear hb C
    go_wp2_with fail
    refine bodyPost_ret (results_tmp2 rfl _ _ _) rfl ?_
    exact ⟨rfl, HB.out⟩
end Go.Proofs.YtgadceelbeacgaaDoor
