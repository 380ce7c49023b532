/- Texts that are joined: WayTxt, WayFil, JoinM. -/
import Derived.Test.YtliebicnejbheabGreatDoorMg21
import Derived.Lib.QuietBelow
import Derived.Test.YtliebicnejbheabGreatDoorMg17
import Derived.Test.YtliebicnejbheabGreatDoorMg00
import Derived.Lib.AppendStr
/- Chapter 2: the text of a waterway: the model's and the program's, as contracts. -/
namespace Go.Proofs.YtliebicnejbheabGreatDoor
open Go.RowKit Go.PlainAid Go.Sort

theorem txt_step0 (rs : List (Int × Int × Int)) (zs : List Int) (h : 0 < rs.length) : txt rs zs 1 = txt rs zs 0 ++ (lineR (rs[0]'h).1 (rs[0]'h).2.1 (rs[0]'h).2.2 ++ kNl) := by
  simp [txt, List.getD_eq_getElem?_getD, List.getElem?_eq_getElem h]
theorem txt_step (rs : List (Int × Int × Int)) (zs : List Int) (k : Nat) (h : k + 1 < rs.length) (hz : k < zs.length) : txt rs zs (k + 2) = txt rs zs (k + 1) ++ (lineL (zs[k]'hz) ++ kNl) ++ (lineR (rs[k + 1]'h).1 (rs[k + 1]'h).2.1 (rs[k + 1]'h).2.2 ++ kNl) := by
  rw [txt, if_neg (by omega)]
  simp only [Nat.add_sub_cancel, List.getD_eq_getElem?_getD, List.getElem?_eq_getElem h, List.getElem?_eq_getElem hz, Option.getD_some]
/-- The numbers of a valid waterway are small. -/
theorem goodW_all {rs : List (Int × Int × Int)} {zs : List Int} (h : goodW rs zs) : (∀ r ∈ rs, (1 ≤ r.1 ∧ r.1 ≤ 100) ∧ (100 ≤ r.2.1 ∧ r.2.1 ≤ 900) ∧ 1 ≤ r.2.2 ∧ r.2.2 ≤ 20) ∧ (∀ j (hj : j < zs.length), -1000 ≤ zs[j] ∧ zs[j] ≤ 1000) := by
  refine ⟨fun r hr => ?_, ((goodW_iff rs zs).1 h).2.2.2⟩
  obtain ⟨j, hj, rfl⟩ := List.getElem_of_mem hr
  exact ((goodW_iff rs zs).1 h).2.2.1 j hj
theorem txt_size {rs : List (Int × Int × Int)} {zs : List Int} (h : goodW rs zs) : ∀ k, k ≤ rs.length → (txt rs zs k).size ≤ 132 * k
  | 0, _ => Nat.le_refl 0
  | 1, hk => by
    obtain ⟨h1, h2, h3⟩ := (goodW_all h).1 _ (List.getElem_mem (show 0 < rs.length by omega))
    have := lineR_size _ _ _ (show -1000000 ≤ (rs[0]'(by omega)).1 ∧ (rs[0]'(by omega)).1 ≤ 1000000 by omega) (show -1000000 ≤ (rs[0]'(by omega)).2.1 ∧ (rs[0]'(by omega)).2.1 ≤ 1000000 by omega) (show -1000000 ≤ (rs[0]'(by omega)).2.2 ∧ (rs[0]'(by omega)).2.2 ≤ 1000000 by omega)
    have e : kNl.size = 1 := by decide
    rw [txt_step0 rs zs (by omega), ByteArray.size_append, ByteArray.size_append]
    have e0 : (txt rs zs 0).size = 0 := rfl
    omega
  | k + 2, hk => by
    have ih := txt_size h (k + 1) (by omega)
    have hz : k < zs.length := by have := h.2.1; omega
    obtain ⟨h1, h2, h3⟩ := (goodW_all h).1 _ (List.getElem_mem (show k + 1 < rs.length by omega))
    have hh := (goodW_all h).2 k hz
    have := lineR_size _ _ _ (show -1000000 ≤ (rs[k + 1]'(by omega)).1 ∧ (rs[k + 1]'(by omega)).1 ≤ 1000000 by omega) (show -1000000 ≤ (rs[k + 1]'(by omega)).2.1 ∧ (rs[k + 1]'(by omega)).2.1 ≤ 1000000 by omega) (show -1000000 ≤ (rs[k + 1]'(by omega)).2.2 ∧ (rs[k + 1]'(by omega)).2.2 ≤ 1000000 by omega)
    have := lineL_size (zs[k]'hz) (by omega)
    have e : kNl.size = 1 := by decide
    rw [txt_step rs zs k (by omega) hz]
    simp only [ByteArray.size_append]
    omega

theorem drawn_regrown {P : Program} {f : FuncId} {args : Array Value} {w : World} {d : Nat} {os : Array Obj} {v : Value}
    (h : Calls P f args (grow (redrawn w d) os) fun e w' => e = .returned v ∧ Drawn (grow (redrawn w d) os) w') : Calls P f args (grow (redrawn w d) os) fun e w'' => e = .returned v ∧ ∃ p : Regrown, w'' = grow (redrawn w p.d) p.os :=
  Calls.regrown_of (h.mono fun _ _ ⟨a, b⟩ => ⟨a, b.below _⟩)

theorem spec_line (T : ByteArray) (l d s : Int) : T ++ ⟨#[114, 101, 97, 99, 104, 32]⟩ ++ numB l ++ ⟨#[32, 107, 109, 32]⟩ ++ numB d ++ ⟨#[32, 99, 109, 32]⟩ ++ numB s ++ ⟨#[32, 107, 109, 47, 104, 10]⟩ = T ++ (lineR l d s ++ kNl) := by
  apply bytes_ext
  simp [lineR, kReach, kKm, kCm, kKmh, kNl]
theorem spec_lock (T : ByteArray) (z : Int) : T ++ ⟨#[108, 111, 99, 107, 32]⟩ ++ numB z ++ ⟨#[10]⟩ = T ++ (lineL z ++ kNl) := by
  apply bytes_ext
  simp [lineL, kLock, kNl]

end Go.Proofs.YtliebicnejbheabGreatDoor

/- Chapter 2, the program: a form filled with numbers; the text of a waterway. -/
namespace Go.Proofs.YtliebicnejbheabGreatDoor
open Go.RowKit Go.PlainAid

/-- The library's own limit, whatever it holds. -/
def Mx (w : World) : Prop := ∃ m : Int, w.cell? ⟨0, 0, none⟩ = some (.int .i64 m)
theorem Mx.on {w w' : World} {B : Nat} (h : Mx w) (hb : Below B w w') (hB : w.heap.size ≤ B) : Mx w' := by
  obtain ⟨m, hm⟩ := h
  exact ⟨m, (hb.cell (Nat.lt_of_lt_of_le (World.block_lt_of_cell? _ _ hm) hB)).trans hm⟩

theorem rep_any (s : ByteArray) (n : Int) (w : World) (hs : s.size ≤ 1000) (hn : -999999 ≤ n ∧ n ≤ 999999) (hx : Mx w) :
    Calls Tryz.prog 48 #[.string s, .string ⟨#[63]⟩, .string (numB n), .int .i64 1] w fun e w' => e = .returned (.string (repB s n)) ∧ Below w.heap.size w w' := by
  obtain ⟨m, hm⟩ := hx
  refine Tryz.strings_Replace s ⟨#[63]⟩ (numB n) 1 m w (by omega) hm (by decide) ?_
  have h1 : Lib.countB s ⟨#[63]⟩ ≤ s.size + 1 := by
    have h := Lib.count_le s.data.toList [63]
    have e : s.data.toList.length = s.size := (Lib.size_eq s).symm
    rw [e] at h
    exact h
  have h2 := numB_size n (by omega) (by omega)
  have : Lib.countB s ⟨#[63]⟩ * (numB n).size ≤ 1001 * 21 := Nat.mul_le_mul (by omega) h2
  omega

set_option maxHeartbeats 1000000 in
theorem fill_any (form : ByteArray) (ns : List Int) (D : Option Addr) (m cd BD : Nat) (w : World) (hD : ns.length = m) (hm : m ≤ 1000) (hBD : BD ≤ w.heap.size) (hh : Has w BD D (ns.map (.int .i64)))
    (hb : ∀ j (h : j < ns.length), -999999 ≤ ns[j] ∧ ns[j] ≤ 999999) (hs : ∀ k, k ≤ m → (fillB form ns k).size ≤ 1000) (ht : Tab w) (hx : Mx w) :
    Calls Tryz.prog 23 #[.string form, .slice D m cd] w fun e w' => e = .returned (.string (fillB form ns m)) ∧ Below w.heap.size w w' := by
  have HL := Lib.hid hD
  have H := Lib.hid hh
  have HB := Lib.hid hb
  have HS := Lib.hid hs
  have FM := Lib.hid (fun (z : Int) (W : World) (h : -999999 ≤ z ∧ z ≤ 999999) (hW : Below w.heap.size w W) => implFmt_ok z W h.1 h.2 (ht.on hW (Nat.le_refl _)))
  have RM := Lib.hid (fun (s : ByteArray) (z : Int) (W : World) (h1 : s.size ≤ 1000) (h : -999999 ≤ z ∧ z ≤ 999999) (hW : Below w.heap.size w W) => rep_any s z W h1 h (hx.on hW (Nat.le_refl _)))
  have FS := Lib.hid (fun k hk => fillB_step form ns k hk)
  clear hD hh hb hs ht hx
  go_enter Tryz.func23, Tryz.ntmps23
  go_wp2_with fail
  go_loopw [0, 11] (fun t i wr => ∃ k : Nat, k ≤ m ∧ i = .int .i64 k ∧ t = .string (fillB form ns k) ∧ Below w.heap.size w wr) (fun _ i _ => m - (intOf i).toNat)
  case atStart => exact ⟨0, Nat.zero_le _, rfl, rfl, Below.refl _ _⟩
  case round =>
    obtain ⟨k, hk, rfl, rfl, hb⟩ := hrel
    have hk0 : (0 : Int) ≤ (k : Int) := by omega
    by_cases hlt : k < m
    · have hkl : k < ns.length := by rw [HL.out]; exact hlt
      obtain ⟨a1, rfl, _, e0⟩ := (H.out.below (hb.mono hBD)).intAt hkl
      have hz := HB.out k hkl
      have hT := HS.out k hk
      have F := Lib.hid (FM.out (ns[k]'hkl) wr hz hb)
      have R := Lib.hid (fun W (hW : Below w.heap.size w W) => RM.out (fillB form ns k) (ns[k]'hkl) W hT hz hW)
      have HE := Lib.hid (FS.out k hkl)
      generalize (ns[k]'hkl) = z at e0 F R HE
      generalize fillB form ns k = T at R HE ⊢
      generalize numB z = dz at F R
      have hk1 : (k : Int) < (m : Int) := by omega
      have HBw := Lib.hid hb
      clear FM RM FS HS HB H hb hz
      go_wp2_with fail
      refine F.out.mono ?_
      rintro e w1 ⟨rfl, hb1⟩
      have HB1 := Lib.hid (HBw.out.trans (hb1.mono HBw.out.size))
      clear hb1 F
      go_wp2_with fail
      refine (R.out _ HB1.out).mono ?_
      rintro e w2 ⟨rfl, hb2⟩
      have HB2 := Lib.hid (HB1.out.trans (hb2.mono HB1.out.size))
      clear hb2 R
      go_wp2_with fail
      go_roundw
      case rel => exact ⟨k + 1, by omega, by go_num, by rw [HE.out], HB2.out⟩
      case measure => simp [intOf]; omega
    · obtain rfl : k = m := by omega
      have hlt4 : ¬ (k : Int) < (k : Int) := by omega
      clear FM RM FS HS HB H
      go_wp2_with fail
      go_ret
      exact ⟨rfl, hb⟩

theorem fill_lock_small (z : Int) (h : -1000000 ≤ z ∧ z ≤ 1000000) : ∀ k, k ≤ 1 → (fillB lockForm [z] k).size ≤ 1000
  | 0, _ => by show lockForm.size ≤ 1000; decide
  | 1, _ => by rw [fill_lock]; have := lineL_size z h; omega
theorem fill_reach_small (l d s : Int) (h1 : -1000000 ≤ l ∧ l ≤ 1000000) (h2 : -1000000 ≤ d ∧ d ≤ 1000000) (h3 : -1000000 ≤ s ∧ s ≤ 1000000) : ∀ k, k ≤ 3 → (fillB reachForm [l, d, s] k).size ≤ 1000
  | 0, _ => by show reachForm.size ≤ 1000; decide
  | 1, _ => by
    rw [fill_reach1]
    have := numB_size l (by omega) (by omega)
    simp only [ByteArray.size_append]
    have e1 : kReach.size = 6 := by decide
    have e2 : kKm.size = 4 := by decide
    have e3 : kCm.size = 4 := by decide
    have e4 : kKmh.size = 5 := by decide
    have e5 : kQ.size = 1 := by decide
    have e6 : (⟨#[63]⟩ : ByteArray).size = 1 := by decide
    omega
  | 2, _ => by
    rw [fill_reach2]
    have := numB_size l (by omega) (by omega)
    have := numB_size d (by omega) (by omega)
    simp only [ByteArray.size_append]
    have e1 : kReach.size = 6 := by decide
    have e2 : kKm.size = 4 := by decide
    have e3 : kCm.size = 4 := by decide
    have e4 : kKmh.size = 5 := by decide
    have e6 : (⟨#[63]⟩ : ByteArray).size = 1 := by decide
    omega
  | 3, _ => by rw [fill_reach]; have := lineR_size l d s h1 h2 h3; omega
theorem has_new3 (w : World) (x y z : Value) (t : TypeId) : Has (w.alloc (.cells #[x, y, z] t)) (w.heap.size + 1) (some ⟨w.heap.size, 0, none⟩) [x, y, z] := by
  intro k u hu
  match k, hu with
  | 0, hu => exact ⟨_, rfl, Nat.lt_succ_self _, by rw [show (⟨w.heap.size, 0, none⟩ : Addr).add 0 = ⟨w.heap.size, 0, none⟩ from rfl, cellNew]; exact hu⟩
  | 1, hu => exact ⟨_, rfl, Nat.lt_succ_self _, by rw [show (⟨w.heap.size, 0, none⟩ : Addr).add 1 = ⟨w.heap.size, 1, none⟩ from rfl, cellNew]; exact hu⟩
  | 2, hu => exact ⟨_, rfl, Nat.lt_succ_self _, by rw [show (⟨w.heap.size, 0, none⟩ : Addr).add 2 = ⟨w.heap.size, 2, none⟩ from rfl, cellNew]; exact hu⟩
theorem has_one (w : World) (x : Value) (t : TypeId) : Has (w.alloc (.cells #[x] t)) (w.heap.size + 1) (some ⟨w.heap.size, 0, none⟩) [x] := by
  intro k u hu
  match k, hu with
  | 0, hu => exact ⟨_, rfl, Nat.lt_succ_self _, by rw [show (⟨w.heap.size, 0, none⟩ : Addr).add 0 = ⟨w.heap.size, 0, none⟩ from rfl, cellNew]; exact hu⟩

/-- The forms of the program, filled. -/
theorem fillL (z : Int) (w : World) (h : -999999 ≤ z ∧ z ≤ 999999) (ht : Tab w) (hx : Mx w) :
    Calls Tryz.prog 23 #[.string ⟨#[108, 111, 99, 107, 32, 63]⟩, .slice (some ⟨w.heap.size, 0, none⟩) 1 1] (w.alloc (.cells #[.int .i64 z] 3)) fun e w' => e = .returned (.string (lineL z)) ∧ Below w.heap.size w w' := by
  have hb := (Below.refl w.heap.size w).alloc (Nat.le_refl _) (.cells #[.int .i64 z] 3)
  refine (fill_any lockForm [z] (some ⟨w.heap.size, 0, none⟩) 1 1 (w.heap.size + 1) _ rfl (by omega) (by simp) (has_one w (.int .i64 z) 3) (by
    intro j hj
    match j, hj with
    | 0, _ => exact h) (fill_lock_small z (by omega)) (ht.on hb (Nat.le_refl _)) (hx.on hb (Nat.le_refl _))).mono ?_
  rintro e w' ⟨rfl, hb'⟩
  exact ⟨by rw [fill_lock], hb.trans (hb'.mono (by simp))⟩
theorem fillR (l d s : Int) (w : World) (h1 : -999999 ≤ l ∧ l ≤ 999999) (h2 : -999999 ≤ d ∧ d ≤ 999999) (h3 : -999999 ≤ s ∧ s ≤ 999999) (ht : Tab w) (hx : Mx w) :
    Calls Tryz.prog 23 #[.string ⟨#[114, 101, 97, 99, 104, 32, 63, 32, 107, 109, 32, 63, 32, 99, 109, 32, 63, 32, 107, 109, 47, 104]⟩, .slice (some ⟨w.heap.size, 0, none⟩) 3 3] (w.alloc (.cells #[.int .i64 l, .int .i64 d, .int .i64 s] 3)) fun e w' => e = .returned (.string (lineR l d s)) ∧ Below w.heap.size w w' := by
  have hb := (Below.refl w.heap.size w).alloc (Nat.le_refl _) (.cells #[.int .i64 l, .int .i64 d, .int .i64 s] 3)
  refine (fill_any reachForm [l, d, s] (some ⟨w.heap.size, 0, none⟩) 3 3 (w.heap.size + 1) _ rfl (by omega) (by simp) (has_new3 w (.int .i64 l) (.int .i64 d) (.int .i64 s) 3) (by
    intro j hj
    match j, hj with
    | 0, _ => exact h1
    | 1, _ => exact h2
    | 2, _ => exact h3) (fill_reach_small l d s (by omega) (by omega) (by omega)) (ht.on hb (Nat.le_refl _)) (hx.on hb (Nat.le_refl _))).mono ?_
  rintro e w' ⟨rfl, hb'⟩
  exact ⟨by rw [fill_reach], hb.trans (hb'.mono (by simp))⟩
end Go.Proofs.YtliebicnejbheabGreatDoor

/- Plain words on strings: which strings hold a byte, and what joining gives. -/
namespace Go.Proofs.YtliebicnejbheabGreatDoor
open Go.RowKit Go.PlainAid

/-- The string s holds the byte v. -/
def holdsB (s : ByteArray) (v : Int) : Prop := ∃ k, k < s.size ∧ bt s k = v
def catB (sep : ByteArray) : List ByteArray → ByteArray
  | [] => ByteArray.empty
  | x :: r => r.foldl (fun acc y => acc ++ sep ++ y) x
theorem catB_snoc (sep : ByteArray) (l : List ByteArray) (x : ByteArray) : catB sep (l ++ [x]) = if l = [] then x else catB sep l ++ sep ++ x := by
  cases l with
  | nil => rfl
  | cons a r => simp [catB, List.foldl_append]
theorem catB_zero (sep : ByteArray) (ss : List ByteArray) (h : 0 < ss.length) : catB sep (ss.take 1) = ss[0] := by
  cases ss with
  | nil => simp at h
  | cons a r => rfl
theorem catB_succ (sep : ByteArray) (ss : List ByteArray) (k : Nat) (hk : 0 < k) (h : k < ss.length) : catB sep (ss.take (k + 1)) = catB sep (ss.take k) ++ sep ++ ss[k] := by
  rw [List.take_succ_eq_append_getElem h, catB_snoc, if_neg]
  intro e
  have := congrArg List.length e
  rw [List.length_take, List.length_nil] at this
  omega
theorem catB_mono (sep : ByteArray) (ss : List ByteArray) (k : Nat) (h : k < ss.length) : (catB sep (ss.take k)).size ≤ (catB sep (ss.take (k + 1))).size := by
  by_cases hk : k = 0
  · subst hk; simp [catB]
  · rw [catB_succ sep ss k (by omega) h]; simp [ByteArray.size_append]; omega
theorem catB_le (sep : ByteArray) (ss : List ByteArray) : ∀ (d k : Nat), k + d = ss.length → (catB sep (ss.take k)).size ≤ (catB sep ss).size := by
  intro d
  induction d with
  | zero => intro k h; rw [List.take_of_length_le (by omega)]; exact Nat.le_refl _
  | succ d ih => intro k h; exact Nat.le_trans (catB_mono sep ss k (by omega)) (ih (k + 1) (by omega))
/-- What may be joined. -/
def goodJ (sep : ByteArray) (ss : List ByteArray) : Prop := sep.size = 1 ∧ ss ≠ [] ∧ (∀ s ∈ ss, ¬ holdsB s (bt sep 0)) ∧ (catB sep ss).size ≤ 4000
theorem nil_app (x : ByteArray) : (⟨#[]⟩ : ByteArray) ++ x = x := by
  apply ByteArray.ext
  simp
theorem strCells_app (a b : ByteArray) : Lib.strCells (a ++ b) = Lib.strCells a ++ Lib.strCells b := by
  simp [Lib.strCells]
theorem strCells_one (s : ByteArray) (h : s.size = 1) : Lib.strCells s = [Value.int .u8 (bt s 0)] := by
  have h0 : 0 < s.size := by omega
  rw [← get_bt s 0 h0]
  have hl : s.data.toList.length = 1 := by simpa using h
  obtain ⟨c, hc⟩ : ∃ c, s.data.toList = [c] := by
    match hq : s.data.toList, hl with
    | [c], _ => exact ⟨c, rfl⟩
  have he : s[0] = c := by
    have e1 : s[0] = s.data.toList[0]'(by rw [hl]; omega) := rfl
    rw [e1]
    simp [hc]
  rw [he, Lib.strCells, hc]
  rfl
theorem of_strCells (s : ByteArray) : (⟨(s.data.toList).toArray⟩ : ByteArray) = s := by
  apply ByteArray.ext; simp
end Go.Proofs.YtliebicnejbheabGreatDoor
