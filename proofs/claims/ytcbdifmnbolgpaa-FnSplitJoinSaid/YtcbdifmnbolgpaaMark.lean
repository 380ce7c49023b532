/- The given tests' marks: the text of a number; writing marks into a slice of strings; finding them there. -/
import Derived.Test.YtcbdifmnbolgpaaMem
import Derived.Deep.LoopGhost
import Derived.Lib.QuietBelow
import Derived.Maps.AppendAt
namespace Go.Proofs.Ytcbdifmnbolgpaa
open Go.RowKit Go.PlainAid Go.Sort

/-- One digit of a mark. -/
def dgB (x : Int) : ByteArray := ⟨#[UInt8.ofNat (48 + x % 10).toNat]⟩
theorem dgB_size (x : Int) : (dgB x).size = 1 := rfl
def mdB : Nat → Int → ByteArray → ByteArray
  | 0, _, acc => acc
  | f + 1, x, acc => if x ≤ 0 then acc else mdB f (x / 10) (dgB x ++ acc)
theorem mdB_end (f : Nat) (x : Int) (acc : ByteArray) (h : x ≤ 0) : mdB f x acc = acc := by cases f <;> simp [mdB, h]
theorem mdB_step (f : Nat) (x : Int) (acc : ByteArray) (h : 0 < x) : mdB (f + 1) x acc = mdB f (x / 10) (dgB x ++ acc) := by
  have : ¬ x ≤ 0 := by omega
  simp [mdB, this]
/-- The text of the mark n. -/
def markB (n : Int) : ByteArray := ⟨#[109]⟩ ++ mdB n.toNat n ⟨#[]⟩
theorem run_dg {P : Program} (src dst e : TypeId) (hs : P.underlying src = some (.slice e)) (he : P.underlying e = some (.int .u8)) (hd : P.underlying dst = some .string) (x : Int) (wr : World) :
    (convert src dst (.slice (some ⟨wr.heap.size, 0, none⟩) 1 1)).run P (wr.alloc (.cells #[.int .u8 (48 + x % 10)] e)) = .ok (.string (dgB x)) (wr.alloc (.cells #[.int .u8 (48 + x % 10)] e)) := by
  have h0 : 0 ≤ x % 10 := by omega
  have h1 : x % 10 < 10 := by omega
  have hb : (((UInt8.ofNat (48 + x % 10).toNat).toNat : Nat) : Int) = 48 + x % 10 := by
    rw [UInt8.toNat_ofNat']; omega
  have := run_convert_bytes_back (P := P) (wr.alloc (.cells #[.int .u8 (48 + x % 10)] e)) src dst e ⟨wr.heap.size, 0, none⟩ 1 [UInt8.ofNat (48 + x % 10).toNat] hs he hd (fun j hj => by
    have : j = 0 := by simpa using hj
    subst this
    simp only [List.getElem_cons_zero, hb]
    simp [Addr.add])
  exact this

set_option maxHeartbeats 1000000 in
theorem markText_any (n : Int) (w : World) (h0 : 0 < n) (h1 : n ≤ 1000000000) :
    Calls Try.prog 32 #[.int .i64 n] w fun e w' => e = .returned (.string (markB n)) ∧ Below w.heap.size w w' := by
  have HM : Hid (markB n = ⟨#[109]⟩ ++ mdB n.toNat n ⟨#[]⟩) := Lib.hid rfl
  obtain ⟨R, hR⟩ : ∃ R, mdB n.toNat n ⟨#[]⟩ = R := ⟨_, rfl⟩
  have HR := Lib.hid hR
  clear hR
  have hcv := fun (x : Int) (W : World) => run_dg (P := Try.prog) 22 9 5 Try.underlying22 Try.underlying5 Try.underlying9 x W
  go_enter Try.func32, Try.ntmps32
  go_wp2
  go_loopg [0, 3] n.toNat (fun g v s wr => ∃ (x : Int) (acc : ByteArray), v = .int .i64 x ∧ s = .string acc ∧ 0 ≤ x ∧ x ≤ 1000000000 ∧ x ≤ (g : Int) ∧ Hid (mdB g x acc = R) ∧ acc.size + g ≤ 1000000000 ∧ Below w.heap.size w wr)
  case atStart => exact ⟨n, ⟨#[]⟩, rfl, rfl, by omega, by omega, by omega, HR, by show 0 + _ ≤ _; omega, Below.refl _ _⟩
  case round =>
    obtain ⟨x, acc, rfl, rfl, hx0, hx1, hxg, hmd, hsz, hb⟩ := hrel
    by_cases hx : 0 < x
    · cases gk with
      | zero => exfalso; omega
      | succ g =>
        have HM2 : Hid (mdB g (x / 10) (dgB x ++ acc) = R) := Lib.hid (by rw [← hmd.out, mdB_step g x acc hx])
        have hds := dgB_size x
        have hq0 : 0 ≤ x % 10 := by omega
        have hq1 : x % 10 ≤ 9 := by omega
        clear hmd
        go_wp2
        go_roundg g
        case rel => exact ⟨x / 10, dgB x ++ acc, rfl, rfl, by omega, by omega, by omega, HM2, by rw [ByteArray.size_append, hds]; omega, hb.alloc hb.size _⟩
        case measure => omega
    · have HA : Hid (acc = R) := Lib.hid (by rw [← hmd.out, mdB_end gk x acc (by omega)])
      have hasz : acc.size ≤ 1000000000 := by omega
      clear hmd
      go_wp2
      go_ret
      exact ⟨ret_str (by rw [HM.out, HR.out, HA.out]), hb⟩

/-- n marks from m on. -/
def marks (m : Int) (n : Nat) : List Value := (List.range n).map fun (j : Nat) => Value.string (markB (m + (j : Int)))
theorem marks_len (m : Int) (n : Nat) : (marks m n).length = n := by simp [marks]
theorem marks_at (m : Int) (n k : Nat) (h : k < n) : (marks m n)[k]? = some (.string (markB (m + (k : Int)))) := by simp [marks, h]
theorem grown_of_below {w w' : World} (h : Below w.heap.size w w') (row : Option Nat) : w.grownBy w' row := ⟨h.os, h.tape, h.output, h.size, fun k hk _ => h.block k hk⟩

set_option maxHeartbeats 1000000 in
theorem markS_any (g n c base : Nat) (m : Int) (xs : List Value) (w : World) (hm0 : 0 < m) (hm1 : m + n ≤ 1000000000)
    (hown : w.ownsRow base 9 1 (.slice (some ⟨g, 0, none⟩) n c) n xs) :
    Calls Try.prog 19 #[.slice (some ⟨g, 0, none⟩) n c, .int .i64 m] w fun e w' => e = .returned (.int .i64 (m + n)) ∧
      w'.ownsRow base 9 1 (.slice (some ⟨g, 0, none⟩) n c) n (marks m n) ∧ w.grownBy w' (some g) := by
  go_enter Try.func19, Try.ntmps19
  go_wp2
  go_loopg [1, 5] n (fun gh q i wr => ∃ (k : Nat) (ys : List Value), k + gh = n ∧ i = .int .i64 k ∧ q = .int .i64 (m + k) ∧ wr.ownsRow base 9 1 (.slice (some ⟨g, 0, none⟩) n c) n ys ∧ Hid (ys.take k = (marks m n).take k) ∧ w.grownBy wr (some g))
  case atStart => exact ⟨0, xs, by omega, rfl, by simp, hown, Lib.hid (by simp), World.grownBy.refl _ _⟩
  case round =>
    obtain ⟨k, ys, hkg, rfl, rfl, hown, hx, hg⟩ := hrel
    cases gk with
    | succ gh =>
      have hlt : k < n := by omega
      have hyl : ys.length = n := by simpa using hown.1
      go_wp2_with (go_at_call 32; refine (markText_any _ _ (by omega) (by omega)).mono ?_; rintro e w1 ⟨rfl, hb1⟩; have hown1 := hown.kept (grown_of_below hb1 none) (.inr (by simp [Value.ownBlock])); have hc := hown1.cellAt k (by omega); have hc' : w1.cell? ⟨g, k, none⟩ = some (ys[k]'(by omega)) := (by rw [hc]; simp [hyl, hlt]); have hf := hown1.frozenAt k; generalize ys[k]'(by omega) = old at hc'; clear hc)
      go_roundg gh
      case rel => exact ⟨k + 1, ys.set k (.string (markB (m + k))), by omega, by go_num, by go_num, (hown1.stored k _).1, Lib.hid (take_set_succ _ _ _ _ (by omega) (marks_at m n k hlt) hx.out), (hg.trans (grown_of_below hb1 _)).trans (hown1.stored k _).2⟩
      case measure => omega
    | zero =>
      obtain rfl : k = n := by omega
      have hyl : ys.length = k := by simpa using hown.1
      have hall : ys = marks m k := by
        have := hx.out
        rwa [List.take_of_length_le (by omega), List.take_of_length_le (by rw [marks_len]; omega)] at this
      subst hall
      clear hx hyl
      go_wp2
      go_ret
      exact ⟨rfl, hown, hg⟩

set_option maxHeartbeats 1000000 in
theorem heldS_any (g n c base : Nat) (m : Int) (w : World) (hm0 : 0 < m) (hm1 : m + n ≤ 1000000000)
    (hown : w.ownsRow base 9 1 (.slice (some ⟨g, 0, none⟩) n c) n (marks m n)) :
    Calls Try.prog 20 #[.slice (some ⟨g, 0, none⟩) n c, .int .i64 m] w fun e w' => e = .returned (.int .i64 (m + n)) ∧ Below w.heap.size w w' := by
  go_enter Try.func20, Try.ntmps20
  go_wp2
  go_loopg [1, 5] n (fun gh q i wr => ∃ (k : Nat), k + gh = n ∧ i = .int .i64 k ∧ q = .int .i64 (m + k) ∧ Below w.heap.size w wr)
  case atStart => exact ⟨0, by omega, rfl, by simp, Below.refl _ _⟩
  case round =>
    obtain ⟨k, hkg, rfl, rfl, hb⟩ := hrel
    cases gk with
    | succ gh =>
      have hlt : k < n := by omega
      have hk0 : (0 : Int) ≤ (k : Int) := by omega
      have hk1 : (k : Int) < (n : Int) := by omega
      have hownr := hown.kept (grown_of_below (hb.mono (Nat.le_refl _)) none) (.inr (by simp [Value.ownBlock]))
      have hc := hownr.cellAt k (by omega)
      rw [marks_at m n k hlt] at hc
      have hcd := fun (d : Nat) (os : Array Obj) => cell_regrown hc d os
      have cM := fun (d : Nat) (os : Array Obj) => Calls.regrown_of (w := wr) (d := d) (os := os) (markText_any (m + k) _ (by omega) (by omega))
      generalize markB (m + (k : Int)) = mk at *
      clear hownr hown hc
      go_wp2
      refine wp_region_quiet_below (by kernel_rfl) (by kernel_rfl) ?_
      repeat (quiet_step (exact cM _ _))
      refine wpQuiet_nil ?_
      intro _ hw'
      obtain ⟨⟨dq, osq⟩, hw''⟩ := hw'
      subst hw''
      go_wp2
      go_roundg gh
      case rel => exact ⟨k + 1, by omega, by go_num, by go_num, hb.trans ((below_regrown wr dq osq).mono hb.size)⟩
      case measure => omega
    | zero =>
      obtain rfl : k = n := by omega
      clear hown
      go_wp2
      go_ret
      exact ⟨rfl, hb⟩
end Go.Proofs.Ytcbdifmnbolgpaa
