/- Texts that are joined: Draw, Among, IntS. -/
import Derived.Test.YtliebicnejbheabGreatDoorMg00
import Derived.Deep.LoopGhost
import Derived.Lib.QuietBelow
import Derived.Maps.AppendAt
/- Starting a cursor; the texts that it draws. -/
namespace Go.Proofs.YtliebicnejbheabGreatDoor
open Go.RowKit Go.PlainAid

theorem cell_new (w : World) (cs : Array Value) (t : TypeId) (k : Nat) : (w.alloc (.cells cs t)).cell? ⟨w.heap.size, k, none⟩ = cs[k]? :=
  cell_of_row _ _ k cs t (0, 0) (heap_alloc_new w _)
/-- The bytes that a law was handed. -/
structure Code_ (w : World) (A : Option Addr) (n : Nat) (zs : List Int) (B : Nat) : Prop where
  len : zs.length = n
  small : n ≤ 65536
  bytes : ∀ z ∈ zs, 0 ≤ z ∧ z ≤ 255
  has : Has w B A (zs.map (.int .u8))
  size : B ≤ w.heap.size
theorem Code_.on {w w' : World} {A : Option Addr} {n : Nat} {zs : List Int} {B : Nat} (h : Code_ w A n zs B) (hb : Below B w w') : Code_ w' A n zs B :=
  ⟨h.len, h.small, h.bytes, h.has.below hb, Nat.le_trans h.size hb.size⟩
theorem Code_.start {w : World} {A : Option Addr} {n : Nat} {zs : List Int} {B : Nat} (h : Code_ w A n zs B) (c : Nat) :
    CurAt (w.alloc (.cells #[.slice A n c, .int .i64 0, .int .u64 0] 60)) w.heap.size A n c 0 zs B :=
  ⟨⟨0, heap_alloc_new w _⟩, h.len, h.small, h.bytes, h.has.alloc h.size _, h.size, Int.le_refl _⟩
theorem bytes_of {zs : List Int} (h : ∀ z ∈ zs, (Lit.int .u8 z).wf = true) : ∀ z ∈ zs, 0 ≤ z ∧ z ≤ 255 := fun z hz => by
  have := h z hz
  have e1 : IntKind.u8.min = 0 := rfl
  have e2 : IntKind.u8.max = 255 := rfl
  simp [Lit.wf, e1, e2] at this
  omega
theorem Code_.of {w : World} {A : Option Addr} {n : Nat} {zs : List Int} (h : IsInts .u8 w A n zs) (hn : n ≤ 65536) : Code_ w A n zs w.heap.size :=
  ⟨h.1, hn, bytes_of h.2.2.1, h.2.2.2, Nat.le_refl _⟩

/-- Below its own blocks a step of a fresh cursor turns nothing. -/
theorem below_start {w w' : World} {o : Obj} (h : (w.alloc o).grownBy w' (some w.heap.size)) : Below w.heap.size w w' :=
  ((Below.refl _ w).alloc (Nat.le_refl _) o).grown h (by simp) (fun k e => by cases e; exact Nat.le_refl _)

theorem Tryz.info5'' : (Tryz.prog.info? 5).map (fun i => (i.zero, i.size, i.bytes)) = some (some (.int .u8 0), 1, 1) := by kernel_rfl
theorem run_zeros {P : Program} (src dst e : TypeId) (hs : P.underlying src = some (.slice e)) (he : P.underlying e = some (.int .u8)) (hd : P.underlying dst = some .string) (l : Nat) (w : World) {g : Nat} {base : Nat}
    (h : w.ownsRow base e 1 (.slice (some ⟨g, 0, none⟩) l l) l (madeCells (Value.int .u8 0).cells (l * 1)).toList) :
    (convert src dst (.slice (some ⟨g, 0, none⟩) l l)).run P w = .ok (.string ⟨(List.replicate l (0 : UInt8)).toArray⟩) w := by
  have := run_convert_bytes_back (P := P) w src dst e ⟨g, 0, none⟩ l (List.replicate l 0) hs he hd (fun j hj => h.cells (g := g) rfl j _ (by
    have hj' : j < l := by simpa using hj
    simp [madeCells, hj', Value.cells, Nat.mod_one]))
  simpa using this

end Go.Proofs.YtliebicnejbheabGreatDoor

/- One of some numbers: a contract of the cursor. -/
namespace Go.Proofs.YtliebicnejbheabGreatDoor
open Go.RowKit Go.PlainAid

set_option maxHeartbeats 1000000 in
/-- One of some numbers. -/
theorem amongN_at {g : Nat} {A : Option Addr} {n c : Nat} {p : Int} {zs : List Int} {B : Nat} {w : World} (h : CurAt w g A n c p zs B) (hp1 : p ≤ 900000000) (g2 m c2 : Nat) (ns : List Int) (hm : ns.length = m) (hm0 : 0 < m) (hm1 : m ≤ 1000000)
    (hh : ∀ k (hk : k < ns.length), w.cell? ⟨g2, k, none⟩ = some (.int .i64 ns[k])) (hne : g2 ≠ g) :
    Calls Tryz.prog 55 #[.pointer (some ⟨g, 0, none⟩), .slice (some ⟨g2, 0, none⟩) m c2] w fun e w' => ∃ z ∈ ns, e = .returned (.int .i64 z) ∧ CurStep w w' g A n c p 2 := by
  have H := Lib.hid h
  have HH := Lib.hid hh
  have HM := Lib.hid hm
  clear h hh hm
  go_enter Tryz.func55, Tryz.ntmps55
  go_wp2_with fail
  refine (pick_at H.out hp1 m (by omega)).mono ?_
  rintro e w1 ⟨b1, b10, b11, rfl, hs1⟩
  obtain ⟨k, rfl⟩ : ∃ k : Nat, b1 = (k : Int) := ⟨b1.toNat, by omega⟩
  have hk : k < ns.length := by rw [HM.out]; omega
  have hk1 : (k : Int) < (m : Int) := by omega
  have hc := HH.out k hk
  have hlt : g2 < w.heap.size := World.block_lt_of_cell? w (a := ⟨g2, k, none⟩) hc
  have hc1 : w1.cell? ⟨g2, k, none⟩ = some (.int .i64 ns[k]) := (World.cell?_of_block (a := ⟨g2, k, none⟩) (hs1.grown.block g2 hlt (fun e => hne (by cases e; rfl)))).trans hc
  have HS := Lib.hid hs1
  have hmem : Hid (ns[k] ∈ ns) := Lib.hid (List.getElem_mem _)
  generalize ns[k] = s at hc1 hmem
  clear hc hs1 b11
  go_wp2_with fail
  refine bodyPost_ret (results_tmp rfl _ _ _) rfl ?_
  exact ⟨s, hmem.out, rfl, HS.out⟩

end Go.Proofs.YtliebicnejbheabGreatDoor

/- The given tests' helpers over slices of integers: equality, size, copy, marks. -/
namespace Go.Proofs.YtliebicnejbheabGreatDoor
open Go.RowKit Go.PlainAid Go.Sort

theorem Tryz.infoInt' : (Tryz.prog.info? 3).map (fun i => (i.zero, i.size, i.bytes)) = some (some (.int .i64 0), 1, 8) := by kernel_rfl
theorem grownBelow {w w' : World} (h : Below w.heap.size w w') (row : Option Nat) : w.grownBy w' row := ⟨h.os, h.tape, h.output, h.size, fun k hk _ => h.block k hk⟩

/-- n numbers from m on. -/
def nums (m : Int) (n : Nat) : List Value := (List.range n).map fun (j : Nat) => Value.int .i64 (m + (j : Int))
theorem nums_len (m : Int) (n : Nat) : (nums m n).length = n := by simp [nums]
theorem nums_at (m : Int) (n k : Nat) (h : k < n) : (nums m n)[k]? = some (.int .i64 (m + (k : Int))) := by simp [nums, h]

theorem own_form {w : World} {base : Nat} {e : TypeId} {size n : Nat} {v : Value} {xs : List Value} (h : w.ownsRow base e size v n xs) : ∃ A c, v = .slice A n c := by
  rcases h.2 with ⟨rfl, rfl⟩ | ⟨g, cap, cur, rfl, _⟩
  · exact ⟨none, 0, rfl⟩
  · exact ⟨_, _, rfl⟩

end Go.Proofs.YtliebicnejbheabGreatDoor
