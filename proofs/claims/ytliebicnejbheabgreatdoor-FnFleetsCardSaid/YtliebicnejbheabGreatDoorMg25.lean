/- Texts that are joined: VesTx2, WayPar, ReadM. -/
import Derived.Test.YtliebicnejbheabGreatDoorMg24
import Derived.Test.YtliebicnejbheabGreatDoorMg21
import Derived.Test.YtliebicnejbheabGreatDoorMg23
import Derived.Test.YtliebicnejbheabGreatDoorMg17
import Derived.Lib.AtoiTie
/- Chapter 3: VesselText, the model and the program. -/
namespace Go.Proofs.YtliebicnejbheabGreatDoor
open Go.RowKit Go.PlainAid Go.Sort

theorem kind_at {q : Nat} (h : 1 ≤ q ∧ q ≤ 4) : (#[.string ⟨#[]⟩, .string ⟨#[98, 97, 114, 103, 101]⟩, .string ⟨#[116, 97, 110, 107, 101, 114]⟩, .string ⟨#[112, 97, 115, 115, 101, 110, 103, 101, 114]⟩, .string ⟨#[112, 108, 101, 97, 115, 117, 114, 101]⟩] : Array Value)[q]? = some (.string (kindB q)) := by
  obtain rfl | rfl | rfl | rfl : q = 1 ∨ q = 2 ∨ q = 3 ∨ q = 4 := by omega
  all_goals rfl
theorem has_new4 (w : World) (x y z u0 : Value) (t : TypeId) : Has (w.alloc (.cells #[x, y, z, u0] t)) (w.heap.size + 1) (some ⟨w.heap.size, 0, none⟩) [x, y, z, u0] := by
  intro k u hu
  match k, hu with
  | 0, hu => exact ⟨_, rfl, Nat.lt_succ_self _, by rw [show (⟨w.heap.size, 0, none⟩ : Addr).add 0 = ⟨w.heap.size, 0, none⟩ from rfl, vNew']; exact hu⟩
  | 1, hu => exact ⟨_, rfl, Nat.lt_succ_self _, by rw [show (⟨w.heap.size, 0, none⟩ : Addr).add 1 = ⟨w.heap.size, 1, none⟩ from rfl, vNew']; exact hu⟩
  | 2, hu => exact ⟨_, rfl, Nat.lt_succ_self _, by rw [show (⟨w.heap.size, 0, none⟩ : Addr).add 2 = ⟨w.heap.size, 2, none⟩ from rfl, vNew']; exact hu⟩
  | 3, hu => exact ⟨_, rfl, Nat.lt_succ_self _, by rw [show (⟨w.heap.size, 0, none⟩ : Addr).add 3 = ⟨w.heap.size, 3, none⟩ from rfl, vNew']; exact hu⟩
/-- The form filled with a vessel's numbers. -/
theorem fillV (i l b d : Int) (s word : ByteArray) (w : World) (hi : 0 ≤ i ∧ i ≤ 1000) (hl : 0 ≤ l ∧ l ≤ 1000) (hb : 0 ≤ b ∧ b ≤ 1000) (hd : 0 ≤ d ∧ d ≤ 1000) (hs : (63 : UInt8) ∉ s.data.toList) (hw : (63 : UInt8) ∉ word.data.toList) (hz : s.size ≤ 10) (hzw : word.size ≤ 10) (ht : Tab w) (hx : Mx w) :
    Calls Tryz.prog 23 #[.string (vform s word), .slice (some ⟨w.heap.size, 0, none⟩) 4 4] (w.alloc (.cells #[.int .i64 i, .int .i64 l, .int .i64 b, .int .i64 d] 3)) fun e w' => e = .returned (.string (vtxt i s l b d word)) ∧ Below w.heap.size w w' := by
  have hbb := (Below.refl w.heap.size w).alloc (Nat.le_refl _) (.cells #[.int .i64 i, .int .i64 l, .int .i64 b, .int .i64 d] 3)
  refine (fill_any (vform s word) [i, l, b, d] (some ⟨w.heap.size, 0, none⟩) 4 4 (w.heap.size + 1) _ rfl (by omega) (by simp) (has_new4 w (.int .i64 i) (.int .i64 l) (.int .i64 b) (.int .i64 d) 3) (by
    intro j hj
    match j, hj with
    | 0, _ => show -999999 ≤ i ∧ i ≤ 999999; omega
    | 1, _ => show -999999 ≤ l ∧ l ≤ 999999; omega
    | 2, _ => show -999999 ≤ b ∧ b ≤ 999999; omega
    | 3, _ => show -999999 ≤ d ∧ d ≤ 999999; omega) (vfill_small i l b d hi hl hb hd hs hw hz hzw) (ht.on hbb (Nat.le_refl _)) (hx.on hbb (Nat.le_refl _))).mono ?_
  rintro e w' ⟨rfl, hb'⟩
  exact ⟨by rw [vfill4 i l b d hs hw], hbb.trans (hb'.mono (by simp))⟩

set_option maxHeartbeats 1000000 in
theorem specVT_any (i : Int) (s : ByteArray) (l b d q : Int) (w : World) (hs : s.size ≤ maxLen) (T : ByteArray) (x : Bool) (hy : goodV ⟨i, s, l, b, d, q⟩ → T = vtxt i s l b d (kindB q) ∧ x = true) (hno : ¬ goodV ⟨i, s, l, b, d, q⟩ → T = ⟨#[]⟩ ∧ x = false) :
    Calls Tryz.prog 7 #[.agg #[.int .i64 i, .string s, .int .i64 l, .int .i64 b, .int .i64 d, .int .i64 q]] w fun e w' => e = .returned (.tuple #[.string T, .bool x]) ∧ Below w.heap.size w w' := by
  have C := Lib.hid (fun W => l3Good_any i s l b d q W hs)
  by_cases hg : goodV ⟨i, s, l, b, d, q⟩
  · obtain ⟨rfl, rfl⟩ := hy hg
    rw [gV_yes hg] at C
    obtain ⟨⟨i0, i1⟩, hn, ⟨l0, l1⟩, ⟨b0, b1⟩, ⟨d0, d1⟩, ⟨q0, q1⟩⟩ := hg
    dsimp only at i0 i1 hn l0 l1 b0 b1 d0 d1 q0 q1
    obtain ⟨qn, rfl⟩ : ∃ qn : Nat, q = (qn : Int) := ⟨q.toNat, by omega⟩
    have D := Lib.hid (fun W => l3Text_any i s l b d qn (kindB qn) W (by omega) (by omega) (by omega) (by omega) hn.1.2 (kind_size _) (by omega) (kind_at (by omega)))
    generalize vtxt i s l b d (kindB (qn : Int)) = T at D ⊢
    clear hy hno hn
    go_enter Tryz.func7, Tryz.ntmps7
    go_wp2_with fail
    refine (C.out _).mono ?_
    rintro e w1 ⟨rfl, hb⟩
    have HB := Lib.hid (((Below.refl _ w).alloc (Nat.le_refl _) (.cells #[.int .i64 i, .string s, .int .i64 l, .int .i64 b, .int .i64 d, .int .i64 (qn : Int)] 25)).trans (hb.mono (by simp)))
    have c0 : w1.cell? ⟨w.heap.size, 0, none⟩ = some (.int .i64 i) := (hb.cell (by simp)).trans (by rw [vNew']; rfl)
    have c1 : w1.cell? ⟨w.heap.size, 1, none⟩ = some (.string s) := (hb.cell (by simp)).trans (by rw [vNew']; rfl)
    have c2 : w1.cell? ⟨w.heap.size, 2, none⟩ = some (.int .i64 l) := (hb.cell (by simp)).trans (by rw [vNew']; rfl)
    have c3 : w1.cell? ⟨w.heap.size, 3, none⟩ = some (.int .i64 b) := (hb.cell (by simp)).trans (by rw [vNew']; rfl)
    have c4 : w1.cell? ⟨w.heap.size, 4, none⟩ = some (.int .i64 d) := (hb.cell (by simp)).trans (by rw [vNew']; rfl)
    have c5 : w1.cell? ⟨w.heap.size, 5, none⟩ = some (.int .i64 (qn : Int)) := (hb.cell (by simp)).trans (by rw [vNew']; rfl)
    clear hb C
    go_wp2_with fail
    refine (D.out _).mono ?_
    rintro e w2 ⟨rfl, hb⟩
    have HB2 := Lib.hid (HB.out.trans (hb.mono HB.out.size))
    clear hb
    go_wp2_with fail
    refine bodyPost_ret (results_tmp2 rfl _ _ _) rfl ?_
    exact ⟨rfl, HB2.out⟩
  · obtain ⟨rfl, rfl⟩ := hno hg
    rw [gV_no hg] at C
    clear hy hno hg
    go_enter Tryz.func7, Tryz.ntmps7
    go_wp2_with fail
    refine (C.out _).mono ?_
    rintro e w1 ⟨rfl, hb⟩
    have HB := Lib.hid (((Below.refl _ w).alloc (Nat.le_refl _) (.cells #[.int .i64 i, .string s, .int .i64 l, .int .i64 b, .int .i64 d, .int .i64 q] 25)).trans (hb.mono (by simp)))
    clear hb C
    go_wp2_with fail
    refine bodyPost_ret (results_tmp2 rfl _ _ _) rfl ?_
    exact ⟨rfl, HB.out⟩

set_option maxHeartbeats 2000000 in
theorem implVT_any (i : Int) (s : ByteArray) (l b d q : Int) (w : World) (hs : s.size ≤ maxLen) (T : ByteArray) (x : Bool) (hy : goodV ⟨i, s, l, b, d, q⟩ → T = vtxt i s l b d (kindB q) ∧ x = true) (hno : ¬ goodV ⟨i, s, l, b, d, q⟩ → T = ⟨#[]⟩ ∧ x = false) (ht : Tab w) (hx : Mx w) :
    Calls Tryz.prog 6 #[.agg #[.int .i64 i, .string s, .int .i64 l, .int .i64 b, .int .i64 d, .int .i64 q]] w fun e w' => e = .returned (.tuple #[.string T, .bool x]) ∧ Below w.heap.size w w' := by
  have C := Lib.hid (fun W => implGoodV_any i s l b d q W hs)
  by_cases hg : goodV ⟨i, s, l, b, d, q⟩
  · obtain ⟨rfl, rfl⟩ := hy hg
    rw [gV_yes hg] at C
    obtain ⟨⟨i0, i1⟩, hn, ⟨l0, l1⟩, ⟨b0, b1⟩, ⟨d0, d1⟩, ⟨q0, q1⟩⟩ := hg
    dsimp only at i0 i1 hn l0 l1 b0 b1 d0 d1 q0 q1
    have hsz := hn.1.2
    have hwz := kind_size q
    have D := Lib.hid (fun W (hW : Below w.heap.size w W) => fillV i l b d s (kindB q) W (by omega) (by omega) (by omega) (by omega) (no_small hn 63 (by decide)) (kind_no q 63 (by decide)) hsz hwz (ht.on hW (Nat.le_refl _)) (hx.on hW (Nat.le_refl _)))
    have E := Lib.hid (fun W => kindWord_any q W)
    have HF : Hid (vform s (kindB q) = ⟨#[63, 32]⟩ ++ s ++ ⟨#[32]⟩ ++ kindB q ++ ⟨#[32, 63, 120, 63, 32, 100, 114, 97, 117, 103, 104, 116, 32, 63]⟩) := Lib.hid rfl
    generalize vform s (kindB q) = fm at D HF
    generalize vtxt i s l b d (kindB q) = T at D ⊢
    generalize kindB q = word at E HF hwz
    clear hy hno hn ht hx
    go_enter Tryz.func6, Tryz.ntmps6
    go_wp2_with fail
    refine (C.out _).mono ?_
    rintro e w1 ⟨rfl, hb⟩
    have HB := Lib.hid (((Below.refl _ w).alloc (Nat.le_refl _) (.cells #[.int .i64 i, .string s, .int .i64 l, .int .i64 b, .int .i64 d, .int .i64 q] 25)).trans (hb.mono (by simp)))
    have c0 : w1.cell? ⟨w.heap.size, 0, none⟩ = some (.int .i64 i) := (hb.cell (by simp)).trans (by rw [vNew']; rfl)
    have E0 := fun (d : Nat) (os : Array Obj) => cell_regrown c0 d os
    have c1 : w1.cell? ⟨w.heap.size, 1, none⟩ = some (.string s) := (hb.cell (by simp)).trans (by rw [vNew']; rfl)
    have E1 := fun (d : Nat) (os : Array Obj) => cell_regrown c1 d os
    have c2 : w1.cell? ⟨w.heap.size, 2, none⟩ = some (.int .i64 l) := (hb.cell (by simp)).trans (by rw [vNew']; rfl)
    have E2 := fun (d : Nat) (os : Array Obj) => cell_regrown c2 d os
    have c3 : w1.cell? ⟨w.heap.size, 3, none⟩ = some (.int .i64 b) := (hb.cell (by simp)).trans (by rw [vNew']; rfl)
    have E3 := fun (d : Nat) (os : Array Obj) => cell_regrown c3 d os
    have c4 : w1.cell? ⟨w.heap.size, 4, none⟩ = some (.int .i64 d) := (hb.cell (by simp)).trans (by rw [vNew']; rfl)
    have E4 := fun (d : Nat) (os : Array Obj) => cell_regrown c4 d os
    have c5 : w1.cell? ⟨w.heap.size, 5, none⟩ = some (.int .i64 q) := (hb.cell (by simp)).trans (by rw [vNew']; rfl)
    have E5 := fun (d : Nat) (os : Array Obj) => cell_regrown c5 d os
    have HC := Lib.hid (fun W (hW : Below w1.heap.size w1 W) => (⟨(hW.cell (World.block_lt_of_cell? w1 _ c0)).trans c0, (hW.cell (World.block_lt_of_cell? w1 _ c1)).trans c1, (hW.cell (World.block_lt_of_cell? w1 _ c2)).trans c2, (hW.cell (World.block_lt_of_cell? w1 _ c3)).trans c3, (hW.cell (World.block_lt_of_cell? w1 _ c4)).trans c4, (hW.cell (World.block_lt_of_cell? w1 _ c5)).trans c5⟩ : W.cell? ⟨w.heap.size, 0, none⟩ = some (.int .i64 i) ∧ W.cell? ⟨w.heap.size, 1, none⟩ = some (.string s) ∧ W.cell? ⟨w.heap.size, 2, none⟩ = some (.int .i64 l) ∧ W.cell? ⟨w.heap.size, 3, none⟩ = some (.int .i64 b) ∧ W.cell? ⟨w.heap.size, 4, none⟩ = some (.int .i64 d) ∧ W.cell? ⟨w.heap.size, 5, none⟩ = some (.int .i64 q)))
    have cM := fun (dr : Nat) (os : Array Obj) => Calls.regrown_of (w := w1) (d := dr) (os := os) ((E.out _).mono fun _ _ ⟨a, b⟩ => ⟨a, b ▸ Below.refl _ _⟩)
    clear hb C c0 c1 c2 c3 c4 c5 E
    go_wp2_with fail
    refine wp_region_quiet_below (by kernel_rfl) (by kernel_rfl) ?_
    repeat (go_big_quiet_step (exact cM _ _))
    refine wpQuiet_nil ?_
    intro _ hw'
    obtain ⟨⟨dq, osq⟩, hw''⟩ := hw'
    subst hw''
    have HB2 := Lib.hid (HB.out.trans ((below_regrown w1 dq osq).mono HB.out.size))
    obtain ⟨c0, c1, c2, c3, c4, c5⟩ := HC.out _ (below_regrown w1 dq osq)
    obtain ⟨w3, hw3⟩ : ∃ w3, grow (redrawn w1 dq) osq = w3 := ⟨_, rfl⟩
    rw [hw3] at HB2 c0 c1 c2 c3 c4 c5
    simp only [hw3, ← HF.out]
    clear hw3 E0 E1 E2 E3 E4 E5 cM HC HB HF
    go_wp2_with fail
    refine (D.out _ HB2.out).mono ?_
    rintro e w4 ⟨rfl, hb⟩
    have HB4 := Lib.hid (HB2.out.trans (hb.mono HB2.out.size))
    clear hb c0 c1 c2 c3 c4 c5
    go_wp2_with fail
    refine bodyPost_ret (results_tmp2 rfl _ _ _) rfl ?_
    exact ⟨rfl, HB4.out⟩
  · obtain ⟨rfl, rfl⟩ := hno hg
    rw [gV_no hg] at C
    clear hy hno hg ht hx
    go_enter Tryz.func6, Tryz.ntmps6
    go_wp2_with fail
    refine (C.out _).mono ?_
    rintro e w1 ⟨rfl, hb⟩
    have HB := Lib.hid (((Below.refl _ w).alloc (Nat.le_refl _) (.cells #[.int .i64 i, .string s, .int .i64 l, .int .i64 b, .int .i64 d, .int .i64 q] 25)).trans (hb.mono (by simp)))
    clear hb C
    go_wp2_with fail
    refine bodyPost_ret (results_tmp2 rfl _ _ _) rfl ?_
    exact ⟨rfl, HB.out⟩
end Go.Proofs.YtliebicnejbheabGreatDoor

/- Chapter 2: the text of a waterway, split into lines and words. -/
namespace Go.Proofs.YtliebicnejbheabGreatDoor
open Go.RowKit Go.PlainAid

theorem digits_no (c : UInt8) (hc : ∀ i : Fin 10, c ≠ UInt8.ofNat (48 + i.val)) (u : Nat) : c ∉ Lib.decDigits u := by
  induction u using Nat.strongRecOn with
  | _ u ih =>
    rw [Lib.decDigits]
    have one : ∀ x : Nat, x < 10 → c ≠ UInt8.ofNat (48 + x) := fun x hx => hc ⟨x, hx⟩
    split
    · next h => simpa using one u h
    · next h =>
      simp only [List.mem_append, List.mem_singleton, not_or]
      exact ⟨ih (u / 10) (by omega), one (u % 10) (by omega)⟩
theorem num_no (c : UInt8) (hc : ∀ i : Fin 10, c ≠ UInt8.ofNat (48 + i.val)) (h45 : c ≠ 45) (n : Int) : c ∉ (numB n).data.toList := by
  show c ∉ (Lib.itoa n).toArray.toList
  simp only
  unfold Lib.itoa
  split
  · simp only [List.mem_cons, not_or]
    exact ⟨h45, digits_no c hc _⟩
  · exact digits_no c hc _
theorem no_holds (x : ByteArray) (c : UInt8) (h : c ∉ x.data.toList) : ¬ holdsB x (c.toNat : Int) := by
  rintro ⟨k, hk, e⟩
  rw [bt_list x k hk] at e
  have hk' : k < x.data.toList.length := by simpa using hk
  have e2 : x.data.toList[k]'hk' = c := UInt8.toNat_inj.1 (by exact_mod_cast e)
  exact h (e2 ▸ List.getElem_mem hk')
def wReach : ByteArray := ⟨#[114, 101, 97, 99, 104]⟩
def wKm : ByteArray := ⟨#[107, 109]⟩
def wCm : ByteArray := ⟨#[99, 109]⟩
def wKmh : ByteArray := ⟨#[107, 109, 47, 104]⟩
def wLock : ByteArray := ⟨#[108, 111, 99, 107]⟩
def kSp : ByteArray := ⟨#[32]⟩
theorem lineR_cat (l d s : Int) : lineR l d s = catB kSp [wReach, numB l, wKm, numB d, wCm, numB s, wKmh] := by
  apply bytes_ext
  simp [lineR, catB, kReach, kKm, kCm, kKmh, wReach, wKm, wCm, wKmh, kSp]
theorem lineL_cat (z : Int) : lineL z = catB kSp [wLock, numB z] := by
  apply bytes_ext
  simp [lineL, catB, kLock, wLock, kSp]
theorem words_R (l d s : Int) : parts (lineR l d s) 32 = [wReach, numB l, wKm, numB d, wCm, numB s, wKmh] := by
  rw [lineR_cat]
  have N := fun n => no_holds (numB n) 32 (num_no 32 (by decide) (by decide) n)
  have K : ∀ x : ByteArray, (32 : UInt8) ∉ x.data.toList → ¬ holdsB x 32 := fun x h => no_holds x 32 h
  exact parts_catB kSp 32 rfl (by decide) _ (by simp) (List.forall_mem_cons.2 ⟨K _ (by decide), List.forall_mem_cons.2 ⟨N l, List.forall_mem_cons.2 ⟨K _ (by decide), List.forall_mem_cons.2 ⟨N d, List.forall_mem_cons.2 ⟨K _ (by decide), List.forall_mem_cons.2 ⟨N s, List.forall_mem_cons.2 ⟨K _ (by decide), by simp⟩⟩⟩⟩⟩⟩⟩)
theorem words_L (z : Int) : parts (lineL z) 32 = [wLock, numB z] := by
  rw [lineL_cat]
  have N := fun n => no_holds (numB n) 32 (num_no 32 (by decide) (by decide) n)
  have K : ∀ x : ByteArray, (32 : UInt8) ∉ x.data.toList → ¬ holdsB x 32 := fun x h => no_holds x 32 h
  exact parts_catB kSp 32 rfl (by decide) _ (by simp) (List.forall_mem_cons.2 ⟨K _ (by decide), List.forall_mem_cons.2 ⟨N z, by simp⟩⟩)
theorem no_nl_R (l d s : Int) : ¬ holdsB (lineR l d s) 10 := by
  refine no_holds _ 10 ?_
  have N := fun n => num_no 10 (by decide) (by decide) n
  have n1 := N l
  have n2 := N d
  have n3 := N s
  simp only [lineR, ByteArray.data_append, Array.toList_append, List.mem_append, not_or]
  exact ⟨⟨⟨⟨⟨⟨by decide, n1⟩, by decide⟩, n2⟩, by decide⟩, n3⟩, by decide⟩
theorem no_nl_L (z : Int) : ¬ holdsB (lineL z) 10 := by
  refine no_holds _ 10 ?_
  have n1 := num_no 10 (by decide) (by decide) z
  simp only [lineL, ByteArray.data_append, Array.toList_append, List.mem_append, not_or]
  exact ⟨by decide, n1⟩
/-- The lines of the first k reaches and the locks between them. -/
def lines (rs : List (Int × Int × Int)) (zs : List Int) : Nat → List ByteArray
  | 0 => []
  | k + 1 => (if k = 0 then lines rs zs k else lines rs zs k ++ [lineL (zs.getD (k - 1) 0)]) ++ [lineR (rs.getD k (0, 0, 0)).1 (rs.getD k (0, 0, 0)).2.1 (rs.getD k (0, 0, 0)).2.2]
theorem lines_len (rs : List (Int × Int × Int)) (zs : List Int) : ∀ k, (lines rs zs (k + 1)).length = 2 * k + 1
  | 0 => by simp [lines]
  | k + 1 => by
    have ih := lines_len rs zs k
    rw [lines, if_neg (by omega), List.length_append, List.length_append, ih]
    simp
    omega
theorem parts_nl (a : ByteArray) : parts (a ++ kNl) 10 = parts a 10 ++ [⟨#[]⟩] := by
  have := parts_snoc a kNl ⟨#[]⟩ 10 rfl (by decide) (by rintro ⟨k, hk, -⟩; exact Nat.not_lt_zero k hk)
  rwa [show a ++ kNl ++ (⟨#[]⟩ : ByteArray) = a ++ kNl from bytes_ext (by simp)] at this
/-- The text's lines, without the last newline. -/
theorem txt_lines (rs : List (Int × Int × Int)) (zs : List Int) : ∀ k, ∃ b, txt rs zs (k + 1) = b ++ kNl ∧ parts b 10 = lines rs zs (k + 1)
  | 0 => by
    refine ⟨lineR (rs.getD 0 (0, 0, 0)).1 (rs.getD 0 (0, 0, 0)).2.1 (rs.getD 0 (0, 0, 0)).2.2, ?_, ?_⟩
    · rw [txt, if_pos rfl]
      apply bytes_ext
      simp [txt]
    · rw [parts_one _ 10 (no_nl_R _ _ _), lines, if_pos rfl]
      rfl
  | k + 1 => by
    obtain ⟨b, hb, hp⟩ := txt_lines rs zs k
    refine ⟨b ++ kNl ++ lineL (zs.getD k 0) ++ kNl ++ lineR (rs.getD (k + 1) (0, 0, 0)).1 (rs.getD (k + 1) (0, 0, 0)).2.1 (rs.getD (k + 1) (0, 0, 0)).2.2, ?_, ?_⟩
    · rw [txt, if_neg (by omega), hb]
      apply bytes_ext
      simp
    · rw [parts_snoc _ kNl _ 10 rfl (by decide) (no_nl_R _ _ _), parts_snoc _ kNl _ 10 rfl (by decide) (no_nl_L _), hp]
      rw [lines.eq_2 rs zs (k + 1), if_neg (by omega)]
      simp
/-- The text split by newlines. -/
theorem parts_txt (rs : List (Int × Int × Int)) (zs : List Int) (k : Nat) : parts (txt rs zs (k + 1)) 10 = lines rs zs (k + 1) ++ [⟨#[]⟩] := by
  obtain ⟨b, hb, hp⟩ := txt_lines rs zs k
  rw [hb, parts_nl, hp]
theorem lines_even (rs : List (Int × Int × Int)) (zs : List Int) : ∀ k j, j ≤ k → (lines rs zs (k + 1))[2 * j]? = some (lineR (rs.getD j (0, 0, 0)).1 (rs.getD j (0, 0, 0)).2.1 (rs.getD j (0, 0, 0)).2.2)
  | 0, j, h => by
    obtain rfl : j = 0 := by omega
    simp [lines]
  | k + 1, j, h => by
    have hl := lines_len rs zs k
    rw [lines.eq_2 rs zs (k + 1), if_neg (by omega)]
    by_cases hj : j ≤ k
    · rw [List.getElem?_append_left (by rw [List.length_append, hl]; omega), List.getElem?_append_left (by omega)]
      exact lines_even rs zs k j hj
    · obtain rfl : j = k + 1 := by omega
      rw [List.getElem?_append_right (by rw [List.length_append, hl, List.length_singleton]; omega), List.length_append, hl]
      simp
      rw [show 2 * (k + 1) - (2 * k + 1 + 1) = 0 by omega]
      rfl
theorem lines_odd (rs : List (Int × Int × Int)) (zs : List Int) : ∀ k j, j < k → (lines rs zs (k + 1))[2 * j + 1]? = some (lineL (zs.getD j 0))
  | 0, j, h => absurd h (by omega)
  | k + 1, j, h => by
    have hl := lines_len rs zs k
    rw [lines.eq_2 rs zs (k + 1), if_neg (by omega)]
    by_cases hj : j < k
    · rw [List.getElem?_append_left (by rw [List.length_append, hl]; omega), List.getElem?_append_left (by omega)]
      exact lines_odd rs zs k j hj
    · obtain rfl : j = k := by omega
      rw [List.getElem?_append_left (by rw [List.length_append, hl, List.length_singleton]; omega), List.getElem?_append_right (by omega), hl]
      rw [show 2 * j + 1 - (2 * j + 1) = 0 by omega]
      rfl
end Go.Proofs.YtliebicnejbheabGreatDoor

/- Plain words on reading a decimal number. -/
namespace Go.Proofs.YtliebicnejbheabGreatDoor
open Go.RowKit Go.PlainAid

def pvs (t : ByteArray) : Nat → Int
  | 0 => 0
  | k + 1 => 10 * pvs t k + (bt t k - 48)
def digs (t : ByteArray) (k : Nat) : Prop := ∀ j, j < k → 48 ≤ bt t j ∧ bt t j ≤ 57
theorem digs_succ {t : ByteArray} {k : Nat} (h : digs t k) (h1 : 48 ≤ bt t k ∧ bt t k ≤ 57) : digs t (k + 1) := fun j hj => by
  by_cases e : j = k
  · subst e; exact h1
  · exact h j (by omega)
theorem pvs_bd (t : ByteArray) : ∀ k, digs t k → 0 ≤ pvs t k ∧ pvs t k < (10 : Int) ^ k
  | 0, _ => ⟨Int.le_refl _, by show (0 : Int) < 1; omega⟩
  | k + 1, h => by
    have ih := pvs_bd t k (fun j hj => h j (by omega))
    have hk := h k (by omega)
    have e : (10 : Int) ^ (k + 1) = 10 * 10 ^ k := by rw [Int.pow_succ]; omega
    rw [e]
    simp only [pvs]
    omega
theorem pow_le (k m : Nat) (h : k ≤ m) : (10 : Int) ^ k ≤ 10 ^ m := by
  have : (10 : Nat) ^ k ≤ 10 ^ m := Nat.pow_le_pow_right (by decide) h
  have h2 : ((10 ^ k : Nat) : Int) ≤ ((10 ^ m : Nat) : Int) := by omega
  simpa using h2
theorem pvs_6 (t : ByteArray) (k : Nat) (h : digs t k) (hk : k ≤ 6) : 0 ≤ pvs t k ∧ pvs t k ≤ 999999 := by
  have h1 := pvs_bd t k h
  have h2 := pow_le k 6 hk
  have h3 : (10 : Int) ^ 6 = 1000000 := by decide
  omega
/-- t is a row of one to six digits. -/
def rdd (t : ByteArray) : Prop := 1 ≤ t.size ∧ t.size ≤ 6 ∧ digs t t.size
def rdv (t : ByteArray) : Int := pvs t t.size

def pv (l : List UInt8) : Int := l.foldl (fun a c => 10 * a + ((c.toNat : Int) - 48)) 0
theorem pv_snoc (l : List UInt8) (c : UInt8) : pv (l ++ [c]) = 10 * pv l + ((c.toNat : Int) - 48) := by simp [pv, List.foldl_append]
theorem take_snoc' (s : ByteArray) (k : Nat) (h : k < s.size) : s.data.toList.take (k + 1) = s.data.toList.take k ++ [s[k]] := by
  rw [List.take_succ_eq_append_getElem (by simpa using h)]; rfl
theorem pvs_pv (t : ByteArray) : ∀ k, k ≤ t.size → pvs t k = pv (t.data.toList.take k)
  | 0, _ => rfl
  | k + 1, h => by
    rw [take_snoc' t k (by omega), pv_snoc, ← pvs_pv t k (by omega), get_bt t k (by omega)]
    rfl
theorem rdv_pv (t : ByteArray) : rdv t = pv t.data.toList := by
  unfold rdv
  rw [pvs_pv t _ (Nat.le_refl _), List.take_of_length_le (by simp)]
theorem chr_val (d : Nat) (h : d < 10) : ((UInt8.ofNat (48 + d)).toNat : Int) = 48 + d := by rw [UInt8.toNat_ofNat']; omega
theorem pv_dec : ∀ x : Nat, pv (Lib.decDigits x) = x := by
  intro x
  induction x using Nat.strongRecOn with
  | ind x ih =>
    by_cases h : x < 10
    · rw [Lib.decDigits_one h]; simp [pv]; omega
    · rw [Lib.decDigits, dif_neg h, pv_snoc, ih (x / 10) (by omega), chr_val _ (by omega)]; omega
theorem dig_dec : ∀ x : Nat, ∀ c ∈ Lib.decDigits x, 48 ≤ c.toNat ∧ c.toNat ≤ 57 := by
  intro x
  induction x using Nat.strongRecOn with
  | ind x ih =>
    intro c hc
    by_cases h : x < 10
    · rw [Lib.decDigits_one h] at hc
      have : c = UInt8.ofNat (48 + x) := by simpa using hc
      subst this
      rw [UInt8.toNat_ofNat']; omega
    · rw [Lib.decDigits, dif_neg h] at hc
      rcases List.mem_append.1 hc with hc | hc
      · exact ih (x / 10) (by omega) c hc
      · have : c = UInt8.ofNat (48 + x % 10) := by simpa using hc
        subst this
        rw [UInt8.toNat_ofNat']; omega
theorem nDig_le (x k : Nat) (h : x < 10 ^ (k + 1)) : Lib.nDigits x ≤ k + 1 := by
  induction k generalizing x with
  | zero => rw [Lib.nDigits_small (by simpa using h)]; exact Nat.le_refl _
  | succ k ih =>
    by_cases hx : x < 10
    · rw [Lib.nDigits_small hx]; omega
    · rw [Lib.nDigits_big hx]
      have := ih (x / 10) (by rw [Nat.pow_succ] at h; omega)
      omega
theorem numB_nn (x : Nat) : numB (x : Int) = ⟨(Lib.decDigits x).toArray⟩ := by
  unfold numB Lib.itoa; rw [if_neg (by omega)]; rfl
theorem numB_data (x : Nat) : (numB (x : Int)).data.toList = Lib.decDigits x := by rw [numB_nn]
theorem numB_sz (x : Nat) : (numB (x : Int)).size = Lib.nDigits x := by
  rw [numB_nn, ← Lib.decDigits_length]; show (Lib.decDigits x).toArray.size = _; simp
theorem bt_mem (s : ByteArray) (j : Nat) (h : j < s.size) : ∃ c ∈ s.data.toList, bt s j = (c.toNat : Int) := by
  refine ⟨s[j], ?_, (get_bt s j h).symm⟩
  have : s[j] = s.data.toList[j]'(by simpa using h) := rfl
  rw [this]
  exact List.getElem_mem _
theorem rdd_num (x : Nat) (h : x ≤ 999999) : rdd (numB (x : Int)) := by
  refine ⟨by rw [numB_sz]; exact Lib.nDigits_pos x, by rw [numB_sz]; exact nDig_le x 5 (by omega), ?_⟩
  intro j hj
  obtain ⟨c, hc, e⟩ := bt_mem _ j hj
  rw [numB_data] at hc
  have := dig_dec x c hc
  rw [e]; omega
theorem rdv_num (x : Nat) : rdv (numB (x : Int)) = x := by rw [rdv_pv, numB_data, pv_dec]
theorem num_first (x : Nat) : 48 ≤ bt (numB (x : Int)) 0 := by
  have hp : 0 < (numB (x : Int)).size := by rw [numB_sz]; exact Lib.nDigits_pos x
  obtain ⟨c, hc, e⟩ := bt_mem _ 0 hp
  rw [numB_data] at hc
  have := dig_dec x c hc
  rw [e]; omega
/-- A negative number's text: its size, its first byte, the rest. -/
theorem neg_parts (x : Nat) (h : 0 < x) : 1 < (numB (-(x : Int))).size ∧ bt (numB (-(x : Int))) 0 = 45 ∧ (numB (-(x : Int))).extract 1 (numB (-(x : Int))).size = numB (x : Int) := by
  have hp : 0 < (numB (x : Int)).size := by rw [numB_sz]; exact Lib.nDigits_pos x
  have hs : (numB (-(x : Int))).size = 1 + (numB (x : Int)).size := by rw [numB_neg x h, ByteArray.size_append]; rfl
  refine ⟨by omega, ?_, ?_⟩
  · have h0 : 0 < (numB (-(x : Int))).size := by omega
    rw [← get_bt _ 0 h0]
    have e : (numB (-(x : Int))).data.toList = 45 :: (numB (x : Int)).data.toList := by rw [numB_neg x h]; simp
    have e2 : (numB (-(x : Int)))[0] = (numB (-(x : Int))).data.toList[0]'(by simpa using h0) := rfl
    rw [e2]
    simp [e]
  · rw [hs, numB_neg x h]
    apply ByteArray.ext
    apply Array.ext'
    simp
    exact List.take_of_length_le (by simp)

theorem decFrom_app (l : List UInt8) : ∀ (acc : Nat) (c : UInt8), Lib.decFrom acc (l ++ [c]) = (Lib.decFrom acc l).bind fun n => (Lib.digitVal c).map fun d => n * 10 + d := by
  induction l with
  | nil => intro acc c; simp only [List.nil_append, Lib.decFrom]; cases Lib.digitVal c <;> rfl
  | cons a t ih =>
    intro acc c
    simp only [List.cons_append, Lib.decFrom]
    cases Lib.digitVal a with
    | none => rfl
    | some d => exact ih _ c
theorem digVal (d : Nat) (h : d < 10) : Lib.digitVal (UInt8.ofNat (48 + d)) = some d := by
  unfold Lib.digitVal
  have : (UInt8.ofNat (48 + d)).toNat = 48 + d := by rw [UInt8.toNat_ofNat']; omega
  rw [this, if_pos (by omega)]
  congr 1; omega
theorem decFrom_dec : ∀ x : Nat, Lib.decFrom 0 (Lib.decDigits x) = some x := by
  intro x
  induction x using Nat.strongRecOn with
  | ind x ih =>
    by_cases h : x < 10
    · rw [Lib.decDigits_one h]; simp only [Lib.decFrom, digVal x h]; simp
    · rw [Lib.decDigits, dif_neg h, decFrom_app, ih (x / 10) (by omega), digVal _ (by omega)]
      simp; omega
theorem decNat_dec (x : Nat) : Lib.decNat (Lib.decDigits x) = some x := by
  unfold Lib.decNat
  rw [if_neg, decFrom_dec]
  have := Lib.nDigits_pos x
  rw [← Lib.decDigits_length] at this
  intro e
  rw [List.isEmpty_iff] at e
  rw [e] at this
  simp at this
theorem atoi_dec (x : Nat) : Lib.atoi (Lib.decDigits x) = some (x : Int) := by
  have hd := dig_dec x
  have hn := decNat_dec x
  match hl : Lib.decDigits x with
  | [] => rw [hl] at hn; simp [Lib.decNat] at hn
  | b :: r =>
    rw [hl] at hd hn
    have hb := hd b (by simp)
    have h45 : (b == 45) = false := beq_eq_false_iff_ne.2 (fun e => by rw [e] at hb; simp at hb)
    have h43 : (b == 43) = false := beq_eq_false_iff_ne.2 (fun e => by rw [e] at hb; simp at hb)
    simp [Lib.atoi, h45, h43, hn]
theorem atoi_num (n : Int) (h0 : -999999 ≤ n) (h1 : n ≤ 999999) : Lib.atoiAll (numB n).data.toList = .ok n := by
  by_cases hn : n < 0
  · obtain ⟨x, rfl⟩ : ∃ x : Nat, n = -(x : Int) := ⟨n.natAbs, by omega⟩
    have e : (numB (-(x : Int))).data.toList = 45 :: Lib.decDigits x := by
      rw [numB_neg x (by omega)]; simp [numB_data]
    have hl := nDig_le x 5 (by omega)
    rw [e, Lib.atoiAll_short _ (by simp [Lib.decDigits_length]; omega)]
    simp [Lib.atoi, decNat_dec, Lib.NumEnd.ofOption]
  · obtain ⟨x, rfl⟩ : ∃ x : Nat, n = (x : Int) := ⟨n.toNat, by omega⟩
    have hl := nDig_le x 5 (by omega)
    rw [numB_data, Lib.atoiAll_short _ (by rw [Lib.decDigits_length]; omega), atoi_dec]
    rfl
theorem toList_inj {a b : ByteArray} (h : a.toList = b.toList) : a = b := by
  rw [ByteArray.toList_eq, ByteArray.toList_eq] at h
  exact ByteArray.ext (Array.ext' h)
theorem toList_ne {a b : ByteArray} (h : a ≠ b) : (a.toList == b.toList) = false := beq_eq_false_iff_ne.2 (fun e => h (toList_inj e))
end Go.Proofs.YtliebicnejbheabGreatDoor
