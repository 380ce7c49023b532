/- Starting a cursor; the texts that it draws. -/
import Derived.Test.YtdjoiodkmanacaaCur
namespace Go.Proofs.Ytdjoiodkmanacaa
open Go.RowKit Go.PlainAid

theorem cell_new (w : World) (cs : Array Value) (t : TypeId) (k : Nat) : (w.alloc (.cells cs t)).cell? ⟨w.heap.size, k, none⟩ = cs[k]? :=
  cell_of_row _ _ k cs t (0, 0) (heap_alloc_new w _)
/-- The bytes that a law was handed. -/
structure Code_ (w : World) (A : Option Addr) (n : Nat) (zs : List Int) (B : Nat) : Prop where
  len : zs.length = n
  small : n ≤ 65536
  bytes : ∀ z ∈ zs, 0 ≤ z ∧ z ≤ 255
  has : Has w B A (zs.map (.int .u8))
  size : B ≤ w.heap.size
theorem Code_.on {w w' : World} {A : Option Addr} {n : Nat} {zs : List Int} {B : Nat} (h : Code_ w A n zs B) (hb : Below B w w') : Code_ w' A n zs B :=
  ⟨h.len, h.small, h.bytes, h.has.below hb, Nat.le_trans h.size hb.size⟩
theorem Code_.start {w : World} {A : Option Addr} {n : Nat} {zs : List Int} {B : Nat} (h : Code_ w A n zs B) (c : Nat) :
    CurAt (w.alloc (.cells #[.slice A n c, .int .i64 0, .int .u64 0] 60)) w.heap.size A n c 0 zs B :=
  ⟨⟨0, heap_alloc_new w _⟩, h.len, h.small, h.bytes, h.has.alloc h.size _, h.size, Int.le_refl _⟩
theorem bytes_of {zs : List Int} (h : ∀ z ∈ zs, (Lit.int .u8 z).wf = true) : ∀ z ∈ zs, 0 ≤ z ∧ z ≤ 255 := fun z hz => by
  have := h z hz
  have e1 : IntKind.u8.min = 0 := rfl
  have e2 : IntKind.u8.max = 255 := rfl
  simp [Lit.wf, e1, e2] at this
  omega
theorem Code_.of {w : World} {A : Option Addr} {n : Nat} {zs : List Int} (h : IsInts .u8 w A n zs) (hn : n ≤ 65536) : Code_ w A n zs w.heap.size :=
  ⟨h.1, hn, bytes_of h.2.2.1, h.2.2.2, Nat.le_refl _⟩

/-- Below its own blocks a step of a fresh cursor turns nothing. -/
theorem below_start {w w' : World} {o : Obj} (h : (w.alloc o).grownBy w' (some w.heap.size)) : Below w.heap.size w w' :=
  ((Below.refl _ w).alloc (Nat.le_refl _) o).grown h (by simp) (fun k e => by cases e; exact Nat.le_refl _)

theorem Try.info5'' : (Try.prog.info? 5).map (fun i => (i.zero, i.size, i.bytes)) = some (some (.int .u8 0), 1, 1) := by kernel_rfl
theorem run_zeros {P : Program} (src dst e : TypeId) (hs : P.underlying src = some (.slice e)) (he : P.underlying e = some (.int .u8)) (hd : P.underlying dst = some .string) (l : Nat) (w : World) {g : Nat} {base : Nat}
    (h : w.ownsRow base e 1 (.slice (some ⟨g, 0, none⟩) l l) l (madeCells (Value.int .u8 0).cells (l * 1)).toList) :
    (convert src dst (.slice (some ⟨g, 0, none⟩) l l)).run P w = .ok (.string ⟨(List.replicate l (0 : UInt8)).toArray⟩) w := by
  have := run_convert_bytes_back (P := P) w src dst e ⟨g, 0, none⟩ l (List.replicate l 0) hs he hd (fun j hj => h.cells (g := g) rfl j _ (by
    have hj' : j < l := by simpa using hj
    simp [madeCells, hj', Value.cells, Nat.mod_one]))
  simpa using this

end Go.Proofs.Ytdjoiodkmanacaa
