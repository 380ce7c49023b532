/- The given tests' marks: the text of a number; writing marks into a slice of strings; finding them there. -/
import Derived.Test.YtmnagjjpncancabMem
import Derived.Deep.LoopGhost
import Derived.Lib.QuietBelow
import Derived.Maps.AppendAt
namespace Go.Proofs.Ytmnagjjpncancab
open Go.RowKit Go.PlainAid Go.Sort

/-- One digit of a mark. -/
def dgB (x : Int) : ByteArray := ⟨#[UInt8.ofNat (48 + x % 10).toNat]⟩
theorem dgB_size (x : Int) : (dgB x).size = 1 := rfl
def mdB : Nat → Int → ByteArray → ByteArray
  | 0, _, acc => acc
  | f + 1, x, acc => if x ≤ 0 then acc else mdB f (x / 10) (dgB x ++ acc)
theorem mdB_end (f : Nat) (x : Int) (acc : ByteArray) (h : x ≤ 0) : mdB f x acc = acc := by cases f <;> simp [mdB, h]
theorem mdB_step (f : Nat) (x : Int) (acc : ByteArray) (h : 0 < x) : mdB (f + 1) x acc = mdB f (x / 10) (dgB x ++ acc) := by
  have : ¬ x ≤ 0 := by omega
  simp [mdB, this]
/-- The text of the mark n. -/
def markB (n : Int) : ByteArray := ⟨#[109]⟩ ++ mdB n.toNat n ⟨#[]⟩
theorem run_dg {P : Program} (src dst e : TypeId) (hs : P.underlying src = some (.slice e)) (he : P.underlying e = some (.int .u8)) (hd : P.underlying dst = some .string) (x : Int) (wr : World) :
    (convert src dst (.slice (some ⟨wr.heap.size, 0, none⟩) 1 1)).run P (wr.alloc (.cells #[.int .u8 (48 + x % 10)] e)) = .ok (.string (dgB x)) (wr.alloc (.cells #[.int .u8 (48 + x % 10)] e)) := by
  have h0 : 0 ≤ x % 10 := by omega
  have h1 : x % 10 < 10 := by omega
  have hb : (((UInt8.ofNat (48 + x % 10).toNat).toNat : Nat) : Int) = 48 + x % 10 := by
    rw [UInt8.toNat_ofNat']; omega
  have := run_convert_bytes_back (P := P) (wr.alloc (.cells #[.int .u8 (48 + x % 10)] e)) src dst e ⟨wr.heap.size, 0, none⟩ 1 [UInt8.ofNat (48 + x % 10).toNat] hs he hd (fun j hj => by
    have : j = 0 := by simpa using hj
    subst this
    simp only [List.getElem_cons_zero, hb]
    simp [Addr.add])
  exact this

set_option maxHeartbeats 1000000 in
theorem markText_any (n : Int) (w : World) (h0 : 0 < n) (h1 : n ≤ 1000000000) :
    Calls Try.prog 74 #[.int .i64 n] w fun e w' => e = .returned (.string (markB n)) ∧ Below w.heap.size w w' := by
  have HM : Hid (markB n = ⟨#[109]⟩ ++ mdB n.toNat n ⟨#[]⟩) := Lib.hid rfl
  obtain ⟨R, hR⟩ : ∃ R, mdB n.toNat n ⟨#[]⟩ = R := ⟨_, rfl⟩
  have HR := Lib.hid hR
  clear hR
  have hcv := fun (x : Int) (W : World) => run_dg (P := Try.prog) 34 9 5 Try.underlying34 Try.underlying5 Try.underlying9 x W
  go_enter Try.func74, Try.ntmps74
  go_wp2
  go_loopg [0, 3] n.toNat (fun g v s wr => ∃ (x : Int) (acc : ByteArray), v = .int .i64 x ∧ s = .string acc ∧ 0 ≤ x ∧ x ≤ 1000000000 ∧ x ≤ (g : Int) ∧ Hid (mdB g x acc = R) ∧ acc.size + g ≤ 1000000000 ∧ Below w.heap.size w wr)
  case atStart => exact ⟨n, ⟨#[]⟩, rfl, rfl, by omega, by omega, by omega, HR, by show 0 + _ ≤ _; omega, Below.refl _ _⟩
  case round =>
    obtain ⟨x, acc, rfl, rfl, hx0, hx1, hxg, hmd, hsz, hb⟩ := hrel
    by_cases hx : 0 < x
    · cases gk with
      | zero => exfalso; omega
      | succ g =>
        have HM2 : Hid (mdB g (x / 10) (dgB x ++ acc) = R) := Lib.hid (by rw [← hmd.out, mdB_step g x acc hx])
        have hds := dgB_size x
        have hq0 : 0 ≤ x % 10 := by omega
        have hq1 : x % 10 ≤ 9 := by omega
        clear hmd
        go_wp2
        go_roundg g
        case rel => exact ⟨x / 10, dgB x ++ acc, rfl, rfl, by omega, by omega, by omega, HM2, by rw [ByteArray.size_append, hds]; omega, hb.alloc hb.size _⟩
        case measure => omega
    · have HA : Hid (acc = R) := Lib.hid (by rw [← hmd.out, mdB_end gk x acc (by omega)])
      have hasz : acc.size ≤ 1000000000 := by omega
      clear hmd
      go_wp2
      go_ret
      exact ⟨ret_str (by rw [HM.out, HR.out, HA.out]), hb⟩

/-- n marks from m on. -/
def marks (m : Int) (n : Nat) : List Value := (List.range n).map fun (j : Nat) => Value.string (markB (m + (j : Int)))
theorem marks_len (m : Int) (n : Nat) : (marks m n).length = n := by simp [marks]
theorem marks_at (m : Int) (n k : Nat) (h : k < n) : (marks m n)[k]? = some (.string (markB (m + (k : Int)))) := by simp [marks, h]
theorem grown_of_below {w w' : World} (h : Below w.heap.size w w') (row : Option Nat) : w.grownBy w' row := ⟨h.os, h.tape, h.output, h.size, fun k hk _ => h.block k hk⟩

end Go.Proofs.Ytmnagjjpncancab
