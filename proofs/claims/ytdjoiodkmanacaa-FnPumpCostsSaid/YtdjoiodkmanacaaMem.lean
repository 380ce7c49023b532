/- Words of my own for slices whose elements take one cell each. -/
import Derived.Test.YtdjoiodkmanacaaRows
import Derived.WalkKit
import Derived.ProofKit
import Derived.PlainAid
import Derived.Lib.Hide
import Derived.BigQuiet
import Derived.Deep.QuietTactic
import Derived.Deep.Draws
namespace Go.Proofs.Ytdjoiodkmanacaa
open Go.RowKit Go.PlainAid

/-- At the address A, below block B, the one-cell values xs lie in a row. -/
def Has (w : World) (B : Nat) (A : Option Addr) (xs : List Value) : Prop :=
  ∀ k u, xs[k]? = some u → ∃ a, A = some a ∧ a.block < B ∧ w.cell? (a.add k) = some u

theorem ret_int {k : IntKind} {a b : Int} (h : a = b) : Ending.returned (.int k a) = .returned (.int k b) := by rw [h]
theorem ret_str {a b : ByteArray} (h : a = b) : Ending.returned (.string a) = .returned (.string b) := by rw [h]
theorem ret_strb {a b : ByteArray} {c : Bool} (h : a = b) : Ending.returned (.tuple #[.string a, .bool c]) = .returned (.tuple #[.string b, .bool c]) := by rw [h]
/-- A contract in the other direction of its equation on worlds. -/
theorem flip {P : Program} {f : FuncId} {args : Array Value} {w : World} {E : Ending} (h : Calls P f args w fun e w' => e = E ∧ w = w') : Calls P f args w fun e w' => e = E ∧ w' = w :=
  h.mono fun _ _ ⟨a, b⟩ => ⟨a, b.symm⟩
theorem addBlock (a : Addr) (n : Nat) : (a.add n).block = a.block := by unfold Addr.add; split <;> rfl

theorem Has.nil (w : World) (B : Nat) (A : Option Addr) : Has w B A [] := by intro k u h; simp at h
theorem Has.move {w w' : World} {B : Nat} {A : Option Addr} {xs : List Value} (h : Has w B A xs) (hk : ∀ p : Addr, p.block < B → w'.cell? p = w.cell? p) : Has w' B A xs := by
  intro k u hu
  obtain ⟨a, e, hb, hc⟩ := h k u hu
  exact ⟨a, e, hb, (hk _ (by rw [addBlock]; exact hb)).trans hc⟩
theorem Has.below {w w' : World} {B : Nat} {A : Option Addr} {xs : List Value} (h : Has w B A xs) (hb : Below B w w') : Has w' B A xs := h.move fun _ hp => hb.cell hp
theorem Has.more {w : World} {B B' : Nat} {A : Option Addr} {xs : List Value} (h : Has w B A xs) (hB : B ≤ B') : Has w B' A xs := by
  intro k u hu
  obtain ⟨a, e, hb, hc⟩ := h k u hu
  exact ⟨a, e, by omega, hc⟩
theorem Has.drewN {w : World} {B : Nat} {A : Option Addr} {xs : List Value} (h : Has w B A xs) (k : Nat) : Has (w.drewN k) B A xs := h
theorem Has.alloc {w : World} {B : Nat} {A : Option Addr} {xs : List Value} (h : Has w B A xs) (hB : B ≤ w.heap.size) (o : Obj) : Has (w.alloc o) B A xs :=
  h.move fun p hp => World.cell?_alloc_lt w o p (by omega)
theorem Has.of_own {w : World} {base : Nat} {e : TypeId} {A : Option Addr} {n c : Nat} {xs : List Value} (h : w.ownsRow base e 1 (.slice A n c) n xs) : Has w w.heap.size A xs := by
  intro k u hu
  rcases h.2 with ⟨hv, hn⟩ | ⟨g, cap, cur, hv, _⟩
  · have hl := h.1
    have hk := (List.getElem?_eq_some_iff.1 hu).1
    omega
  · injection hv with hA
    subst hA
    exact ⟨_, rfl, (h.lt g rfl).2, h.cells (g := g) rfl k u hu⟩
theorem Has.strAt {w : World} {B : Nat} {A : Option Addr} {ss : List ByteArray} (h : Has w B A (ss.map .string)) {k : Nat} (hk : k < ss.length) :
    ∃ a, A = some a ∧ a.block < B ∧ w.cell? (a.add k) = some (.string ss[k]) := h k _ (by simp [hk])
theorem Has.intAt {w : World} {B : Nat} {A : Option Addr} {q : IntKind} {zs : List Int} (h : Has w B A (zs.map (.int q))) {k : Nat} (hk : k < zs.length) :
    ∃ a, A = some a ∧ a.block < B ∧ w.cell? (a.add k) = some (.int q zs[k]) := h k _ (by simp [hk])

/-- Only draws lie between the two worlds. -/
def Drawn (w w' : World) : Prop := ∃ q, w' = w.drewN q
theorem Drawn.refl (w : World) : Drawn w w := ⟨0, rfl⟩
theorem Drawn.step {w w' : World} (h : Drawn w w') (m : Nat) : Drawn w (w'.drewN m) := by
  obtain ⟨q, rfl⟩ := h
  exact ⟨q + m, by rw [World.drewN_drewN]⟩
theorem Drawn.one (w : World) (m : Nat) : Drawn w (w.drewN m) := ⟨m, rfl⟩
theorem Drawn.trans {w w' w'' : World} (h : Drawn w w') (k : Drawn w' w'') : Drawn w w'' := by
  obtain ⟨m, rfl⟩ := k
  exact h.step m
theorem Drawn.below {w w' : World} (h : Drawn w w') (B : Nat) : Below B w w' := by
  obtain ⟨q, rfl⟩ := h
  exact ⟨rfl, rfl, rfl, Nat.le_refl _, fun _ _ => rfl⟩
theorem Drawn.cell {w w' : World} (h : Drawn w w') (p : Addr) : w'.cell? p = w.cell? p := by
  obtain ⟨q, rfl⟩ := h
  rfl
theorem Drawn.size {w w' : World} (h : Drawn w w') : w'.heap.size = w.heap.size := by
  obtain ⟨q, rfl⟩ := h
  rfl
theorem Drawn.has {w w' : World} {B : Nat} {A : Option Addr} {xs : List Value} (h : Drawn w w') (k : Has w B A xs) : Has w' B A xs := k.move fun p _ => h.cell p
theorem Drawn.own {w w' : World} {base : Nat} {e : TypeId} {size n : Nat} {v : Value} {xs : List Value} (h : Drawn w w') (k : w.ownsRow base e size v n xs) : w'.ownsRow base e size v n xs := by
  obtain ⟨q, rfl⟩ := h
  exact k

/-- A slice of strings that came in: its elements are ss. -/
def IsStrs (w : World) (a : Option Addr) (len : Nat) (ss : List ByteArray) : Prop :=
  ss.length = len ∧ len ≤ maxLen ∧ (∀ s ∈ ss, s.size ≤ maxLen) ∧ Has w w.heap.size a (ss.map .string)
theorem isStrs_nil (w : World) : IsStrs w none 0 [] := ⟨rfl, Nat.zero_le _, by simp, Has.nil _ _ _⟩
theorem isStrs_some {w : World} {a : Addr} {len cap : Nat} {ss : List ByteArray} (hl : len ≤ cap) (hm : cap ≤ maxLen) (hz : ss.length = cap)
    (hcell : ∀ i, i < ss.length → w.cell? (a.add i) = some (.string (ss.getD i ByteArray.empty))) (hws : ∀ s ∈ ss, s.size ≤ maxLen) : IsStrs w (some a) len (ss.take len) := by
  refine ⟨by rw [List.length_take]; omega, by omega, fun s hs => hws s (List.mem_of_mem_take hs), ?_⟩
  intro k u hu
  have hk : k < (ss.take len).length := by
    have := (List.getElem?_eq_some_iff.1 hu).1
    simpa using this
  rw [List.length_take] at hk
  have hc := hcell k (by omega)
  have hb := World.block_lt_of_cell? w (a.add k) hc
  rw [addBlock] at hb
  refine ⟨a, rfl, hb, hc.trans ?_⟩
  rw [List.getElem?_map, List.getElem?_take, if_pos (by omega), List.getElem?_eq_getElem (by omega)] at hu
  rw [← hu, List.getD_eq_getElem?_getD, List.getElem?_eq_getElem (by omega)]
  rfl
theorem own_some {w : World} {base : Nat} {e : TypeId} {size : Nat} {v : Value} {n : Nat} {xs : List Value} (h : w.ownsRow base e size v n xs) (hne : v ≠ .slice none 0 0) :
    ∃ g cap, v = .slice (some ⟨g, 0, none⟩) n cap ∧ base ≤ g := by
  rcases h.2 with ⟨rfl, _⟩ | ⟨g, cap, cur, rfl, hb, _⟩
  · exact absurd rfl hne
  · exact ⟨g, cap, rfl, hb⟩
theorem take_set_succ {α : Type} (xs ys : List α) (k : Nat) (u : α) (hk : k < xs.length) (hu : ys[k]? = some u) (h : xs.take k = ys.take k) : (xs.set k u).take (k + 1) = ys.take (k + 1) := by
  have hy : k < ys.length := (List.getElem?_eq_some_iff.1 hu).1
  rw [List.take_succ_eq_append_getElem (by simpa using hk), List.take_succ_eq_append_getElem hy, List.take_set_of_le (Nat.le_refl _), h]
  have := (List.getElem?_eq_some_iff.1 hu).2
  simp [this]

theorem own_low {w : World} {base base' : Nat} {e : TypeId} {size n : Nat} {v : Value} {xs : List Value} (h : w.ownsRow base e size v n xs) (hb : base' ≤ base) : w.ownsRow base' e size v n xs :=
  ⟨h.1, h.2.imp id (fun ⟨g, cap, cur, a, b, r⟩ => ⟨g, cap, cur, a, Nat.le_trans hb b, r⟩)⟩
theorem Try.info9' : (Try.prog.info? 9).map (fun i => (i.zero, i.size, i.bytes)) = some (some (.string ByteArray.empty), 1, 16) := by kernel_rfl

end Go.Proofs.Ytdjoiodkmanacaa
