/- Decimal numbers: the reference model's text of a number and the program's FormatInt, as contracts. -/
import Derived.Test.YtkdolpgnaabdaabDoorMem
import Derived.Test.YtkdolpgnaabdaabDoorShelf
import Derived.Lib.ItoaLen
import Derived.Lib.LaidTab
import Derived.Stop.LaidErr
import Derived.WalkSmall
namespace Go.Proofs.YtkdolpgnaabdaabDoor
open Go.RowKit Go.PlainAid

/-- The text of a number. -/
def numB (n : Int) : ByteArray := ⟨(Lib.itoa n).toArray⟩
def digC : ByteArray := { data := #[48, 49, 50, 51, 52, 53, 54, 55, 56, 57] }
theorem dig_fin : ∀ i : Fin 10, (digC.extract i.val (i.val + 1)).data.toList = [UInt8.ofNat (48 + i.val)] := by decide +kernel
theorem dig_piece (x : Nat) (h : x < 10) : digC.extract x (x + 1) = ⟨(Lib.decDigits x).toArray⟩ := by
  apply ByteArray.ext
  apply Array.ext'
  rw [Lib.decDigits_one h]
  exact dig_fin ⟨x, h⟩
theorem run_dig {P : Program} (t : TypeId) (h : P.underlying t = some .string) (x : Nat) (hx : x < 10) (W : World) :
    (Instr.slice t (.string { data := #[48, 49, 50, 51, 52, 53, 54, 55, 56, 57] }) (some (.int .i64 (x : Int))) (some (.int .i64 ((x : Int) + 1))) none).run P W = .ok (.string ⟨(Lib.decDigits x).toArray⟩) W := by
  have := run_slice_string (P := P) W t digC .i64 .i64 (x : Int) ((x : Int) + 1) h (by omega) (by omega) (by show _ ≤ ((10 : Nat) : Int); omega)
  rw [show ((x : Int) + 1).toNat = x + 1 by omega, Int.toNat_natCast, dig_piece x hx] at this
  exact this
theorem run_dig' {P : Program} (t : TypeId) (h : P.underlying t = some .string) (x : Nat) (W : World) :
    (Instr.slice t (.string { data := #[48, 49, 50, 51, 52, 53, 54, 55, 56, 57] }) (some (.int .i64 ((x : Int) % 10))) (some (.int .i64 ((x : Int) % 10 + 1))) none).run P W = .ok (.string ⟨(Lib.decDigits (x % 10)).toArray⟩) W := by
  have := run_dig (P := P) t h (x % 10) (by omega) W
  rw [show ((x % 10 : Nat) : Int) = (x : Int) % 10 by omega] at this
  exact this
theorem numB_small (x : Nat) (h : x < 10) : numB (x : Int) = ⟨(Lib.decDigits x).toArray⟩ := by
  unfold numB Lib.itoa; rw [if_neg (by omega)]; rfl
theorem numB_big (x : Nat) (h : ¬ x < 10) : numB (x : Int) = numB ((x / 10 : Nat) : Int) ++ ⟨(Lib.decDigits (x % 10)).toArray⟩ := by
  unfold numB Lib.itoa
  rw [if_neg (by omega), if_neg (by omega), ByteArray.mk_append_mk]
  congr 2
  rw [Int.toNat_natCast, Int.toNat_natCast, Lib.decDigits_one (by omega : x % 10 < 10)]
  conv => lhs; rw [Lib.decDigits, dif_neg h]
theorem numB_neg (x : Nat) (h : 0 < x) : numB (-(x : Int)) = ⟨#[45]⟩ ++ numB (x : Int) := by
  unfold numB Lib.itoa
  rw [if_pos (by omega), if_neg (by omega)]
  have : (⟨#[45]⟩ : ByteArray) = ⟨[(45 : UInt8)].toArray⟩ := rfl
  rw [this, ByteArray.mk_append_mk]
  congr 2
  simp
theorem numB_size (n : Int) (h0 : -1000000000 ≤ n) (h1 : n ≤ 1000000000) : (numB n).size ≤ 21 := by
  have := Lib.itoa_length_le n (by omega) (by omega)
  have e : (numB n).size = (Lib.itoa n).length := by
    show (Lib.itoa n).toArray.size = _
    simp
  omega

theorem quiet_of_drawn {P : Program} {f : FuncId} {args : Array Value} {w : World} {n : Nat} {v : Value}
    (h : Calls P f args (w.drewN n) fun e w' => e = .returned v ∧ Drawn (w.drewN n) w') : Calls P f args (w.drewN n) fun e w'' => e = .returned v ∧ ∃ m, w'' = w.drewN m :=
  h.mono fun _ _ ⟨he, m, hm⟩ => ⟨he, n + m, by rw [hm, World.drewN_drewN]⟩

set_option maxHeartbeats 400000 in
theorem num_nn (k : Nat) : ∀ (x : Nat) (w : World), x ≤ k → x ≤ 1000000000 →
    Calls Tryd.prog 30 #[.int .i64 (x : Int)] w fun e w' => e = .returned (.string (numB (x : Int))) ∧ Drawn w w' := by
  induction k with
  | zero =>
    intro x w hk hb
    have HE := Lib.hid (numB_small x (by omega))
    have hsl := run_dig (P := Tryd.prog) 9 Tryd.underlying9 x (by omega)
    generalize (⟨(Lib.decDigits x).toArray⟩ : ByteArray) = R at HE hsl
    have hx0 : ¬ (x : Int) < 0 := by omega
    have hx1 : (x : Int) < 10 := by omega
    go_enter Tryd.func30, Tryd.ntmps30
    go_wp2_with fail
    go_ret
    exact ⟨ret_str HE.out.symm, Drawn.refl _⟩
  | succ k ih =>
    intro x w hk hb
    have hx0 : ¬ (x : Int) < 0 := by omega
    by_cases hs : x < 10
    · have HE := Lib.hid (numB_small x hs)
      have hsl := run_dig (P := Tryd.prog) 9 Tryd.underlying9 x hs
      generalize (⟨(Lib.decDigits x).toArray⟩ : ByteArray) = R at HE hsl
      have hx1 : (x : Int) < 10 := by omega
      clear ih
      go_enter Tryd.func30, Tryd.ntmps30
      go_wp2_with fail
      go_ret
      exact ⟨ret_str HE.out.symm, Drawn.refl _⟩
    · have HE := Lib.hid (numB_big x hs)
      have hsl := run_dig' (P := Tryd.prog) 9 Tryd.underlying9 x
      have hds : (⟨(Lib.decDigits (x % 10)).toArray⟩ : ByteArray).size = 1 := by
        show (Lib.decDigits (x % 10)).toArray.size = 1
        rw [Lib.decDigits_one (by omega)]; rfl
      have HI := fun (W : World) => ih (x / 10) W (by omega) (by omega)
      have hns := numB_size ((x / 10 : Nat) : Int) (by omega) (by omega)
      have hcast : ((x / 10 : Nat) : Int) = (x : Int) / 10 := by omega
      rw [hcast] at HI hns HE
      have HC := Lib.hid HI
      clear ih HI hcast
      generalize (⟨(Lib.decDigits (x % 10)).toArray⟩ : ByteArray) = R at HE hsl hds
      have hds' : R.size ≤ 1 := by omega
      generalize numB ((x : Int) / 10) = B at HE HC hns
      have hx1 : ¬ (x : Int) < 10 := by omega
      clear hs hds
      go_enter Tryd.func30, Tryd.ntmps30
      go_wp2_with fail
      go_quiet ((go_at_call 30; exact quiet_of_drawn (HC.out _)))
      go_wp2_with fail
      go_ret
      exact ⟨ret_str HE.out.symm, Drawn.one _ _⟩

set_option maxHeartbeats 400000 in
/-- The reference model's text of a number. -/
theorem num_any (n : Int) (w : World) (h0 : -1000000000 ≤ n) (h1 : n ≤ 1000000000) :
    Calls Tryd.prog 30 #[.int .i64 n] w fun e w' => e = .returned (.string (numB n)) ∧ Drawn w w' := by
  by_cases hn : n < 0
  · obtain ⟨x, rfl⟩ : ∃ x : Nat, n = -(x : Int) := ⟨n.natAbs, by omega⟩
    have HE := Lib.hid (numB_neg x (by omega))
    have hns := numB_size (x : Int) (by omega) (by omega)
    have HC := Lib.hid (fun (W : World) => num_nn x x W (Nat.le_refl _) (by omega))
    generalize numB (x : Int) = B at HE HC hns
    generalize numB (-(x : Int)) = B2 at HE ⊢
    go_enter Tryd.func30, Tryd.ntmps30
    go_wp2_with fail
    refine (HC.out _).mono ?_
    rintro e w1 ⟨rfl, hD⟩
    go_wp2_with fail
    go_ret
    exact ⟨ret_str HE.out.symm, hD⟩
  · obtain ⟨x, rfl⟩ : ∃ x : Nat, n = (x : Int) := ⟨n.toNat, by omega⟩
    exact num_nn x x w (Nat.le_refl _) (by omega)

set_option maxHeartbeats 400000 in
theorem in_yes (x a b : Int) (w : World) (h0 : a ≤ x) (h1 : x ≤ b) : Calls Tryd.prog 29 #[.int .i64 x, .int .i64 a, .int .i64 b] w fun e w' => e = .returned (.bool true) ∧ w = w' := by
  have hd : decide (x ≤ b) = true := by simp; omega
  go_enter Tryd.func29, Tryd.ntmps29
  go_wp2
  go_ret
  exact ⟨rfl, rfl⟩

set_option maxHeartbeats 400000 in
theorem in_no (x a b : Int) (w : World) (h : x < a ∨ b < x) : Calls Tryd.prog 29 #[.int .i64 x, .int .i64 a, .int .i64 b] w fun e w' => e = .returned (.bool false) ∧ w = w' := by
  by_cases h0 : a ≤ x
  · have hd : decide (x ≤ b) = false := by simp; omega
    clear h
    go_enter Tryd.func29, Tryd.ntmps29
    go_wp2
    go_ret
    exact ⟨rfl, rfl⟩
  · clear h
    go_enter Tryd.func29, Tryd.ntmps29
    go_wp2
    go_ret
    exact ⟨rfl, rfl⟩

/-- The library's table of powers, as the contracts ask it. -/
abbrev Tab (w : World) : Prop := Lib.TabIs Tryd.prog w "internal/strconv.uint64pow10" .u64 Lib.pow10Tab
theorem tab_of {x y : String × DataW Unit} {r : List (String × DataW Unit)} {w : World} (h : laidMet Tryd.prog (x :: y :: ("internal/strconv.uint64pow10", Rows.laid_internal_strconv_uint64pow10) :: r) w) : Tab w := by
  have h2 := h.tail.tail
  rw [show (Rows.laid_internal_strconv_uint64pow10 : DataW Unit) = Lib.tabData .u64 Lib.pow10Tab from by kernel_rfl] at h2
  exact Lib.tabIs_of_head (g := 5) (t := 116) (e := 88) (n := 20) (by kernel_rfl) (by kernel_rfl) Tryd.underlying116 Tryd.underlying88 (by kernel_rfl) (by kernel_rfl) h2
theorem Tab.lt {w : World} (h : Tab w) : 5 < w.heap.size := by
  have hc := World.var?_cell (show Tryd.prog.globalNamed "internal/strconv.uint64pow10" = some 5 by kernel_rfl) h 0
  have hv : ((Lib.pow10Tab.map fun z => Value.int .u64 z).toArray)[0]? = some (.int .u64 1) := by rfl
  exact World.block_lt_of_cell? w (a := ⟨5, 0, none⟩) (hc.trans hv)
theorem Tab.on {w w' : World} {B : Nat} (h : Tab w) (hb : Below B w w') (hB : w.heap.size ≤ B) : Tab w' :=
  var?_below (hb.mono hB) (show Tryd.prog.globalNamed "internal/strconv.uint64pow10" = some 5 by kernel_rfl) h.lt h
theorem below_grow (w : World) (k : Nat) (os : Array Obj) : Below w.heap.size w (Sort.grow (w.drewN k) os) :=
  ⟨rfl, rfl, rfl, by simp [Sort.grow, World.drewN], fun i hi => by simp [Sort.grow, World.drewN, Array.getElem?_append, hi]⟩

set_option maxHeartbeats 400000 in
theorem implFmt_ok (n : Int) (w : World) (h0 : -999999 ≤ n) (h1 : n ≤ 999999) (ht : Tab w) :
    Calls Tryd.prog 35 #[.int .i64 n] w fun e w' => e = .returned (.tuple #[.string (numB n), .bool true]) ∧ Below w.heap.size w w' := by
  have hd : decide (999999 < n) = false := by simp; omega
  have HC := Lib.hid (Tryd.strconv_Itoa n (by omega) (by omega) w ht)
  clear ht
  go_enter Tryd.func35, Tryd.ntmps35
  go_wp2_with fail
  refine HC.out.mono ?_
  rintro e w1 ⟨rfl, k, os, rfl⟩
  go_wp2_with fail
  go_ret2
  exact ⟨rfl, below_grow _ _ _⟩

set_option maxHeartbeats 400000 in
theorem implFmt_no (n : Int) (w : World) (h : n < -999999 ∨ 999999 < n) :
    Calls Tryd.prog 35 #[.int .i64 n] w fun e w' => e = .returned (.tuple #[.string ⟨#[]⟩, .bool false]) ∧ w = w' := by
  by_cases h0 : n < -999999
  · clear h
    go_enter Tryd.func35, Tryd.ntmps35
    go_wp2_with fail
    go_ret2
    exact ⟨rfl, rfl⟩
  · have hd : decide (999999 < n) = true := by simp; omega
    clear h
    go_enter Tryd.func35, Tryd.ntmps35
    go_wp2_with fail
    go_ret2
    exact ⟨rfl, rfl⟩

end Go.Proofs.YtkdolpgnaabdaabDoor
