/- Chapter 2: the library's strings.Split at a blank, of words that were joined. -/
import Derived.Test.YtkdolpgnaabdaabDoorSplitM
import Derived.Test.YtkdolpgnaabdaabDoorWayFil
import Derived.Lib.Split
import Derived.Lib.SplitLaws
namespace Go.Proofs.YtkdolpgnaabdaabDoor
open Go.RowKit Go.PlainAid Go.Sort

theorem index_at (v : UInt8) (pre post : List UInt8) (h : v ∉ pre) : Lib.index (pre ++ v :: post) [v] = (pre.length : Int) := by
  rw [Lib.index_one]
  induction pre with
  | nil => simp [Lib.indexByte]
  | cons b t ih =>
    have hb : b ≠ v := fun e => h (by simp [e])
    have ht : v ∉ t := fun e => h (by simp [e])
    have := ih ht
    simp only [List.cons_append, Lib.indexByte]
    rw [this]
    have hbf : (b == v) = false := by simpa using hb
    simp [hbf]
theorem index_no (v : UInt8) (l : List UInt8) (h : v ∉ l) : Lib.index l [v] = -1 := by
  rw [Lib.index_one]
  induction l with
  | nil => simp [Lib.indexByte]
  | cons b t ih =>
    have hb : b ≠ v := fun e => h (by simp [e])
    have ht : v ∉ t := fun e => h (by simp [e])
    have := ih ht
    simp only [Lib.indexByte]
    rw [this]
    have hbf : (b == v) = false := by simpa using hb
    simp [hbf]
/-- Words joined by one byte that none of them holds, split at it again. -/
theorem splitK_join (v : UInt8) : ∀ (ps : List (List UInt8)) (p : List UInt8) (k : Nat), (∀ x ∈ p :: ps, v ∉ x) → ps.length ≤ k → Lib.splitK [v] 0 k (p ++ (ps.map (v :: ·)).flatten) = p :: ps
  | [], p, k, h, _ => by
    simp only [List.map_nil, List.flatten_nil, List.append_nil]
    cases k with
    | zero => rfl
    | succ k =>
      unfold Lib.splitK
      rw [index_no v p (h p (by simp))]
      rfl
  | q :: qs, p, 0, _, hk => by simp at hk
  | q :: qs, p, k + 1, h, hk => by
    have e : p ++ (((q :: qs).map (v :: ·)).flatten) = p ++ v :: (q ++ (qs.map (v :: ·)).flatten) := by simp
    rw [e]
    unfold Lib.splitK
    rw [index_at v p _ (h p (by simp))]
    have hm : (((p.length : Nat) : Int) == -1) = false := by simp
    rw [hm]
    simp only [Bool.false_eq_true, if_false, Int.toNat_natCast, Nat.add_zero, List.length_cons, List.length_nil, Nat.zero_add]
    have t1 : (p ++ v :: (q ++ (qs.map (v :: ·)).flatten)).take p.length = p := by simp
    have t2 : (p ++ v :: (q ++ (qs.map (v :: ·)).flatten)).drop (p.length + 1) = q ++ (qs.map (v :: ·)).flatten := by
      rw [List.drop_append]; simp
    rw [t1, t2, splitK_join v qs q k (fun x hx => h x (List.mem_cons_of_mem _ hx)) (by simpa using hk)]
theorem map_bytes_inj : ∀ {a b : List ByteArray}, a.map (·.data.toList) = b.map (·.data.toList) → a = b
  | [], [], _ => rfl
  | [], _ :: _, h => by simp at h
  | _ :: _, [], h => by simp at h
  | x :: a, y :: b, h => by
    rw [List.map_cons, List.map_cons] at h
    injection h with h1 h2
    rw [ext_list h1, map_bytes_inj h2]
/-- The library's words of a text that was joined from words without the byte. -/
theorem splitB_join (v : UInt8) (s p : ByteArray) (ps : List ByteArray) (h : ∀ x ∈ p :: ps, v ∉ x.data.toList) (hs : s.data.toList = p.data.toList ++ ((ps.map (·.data.toList)).map (v :: ·)).flatten) : Lib.splitB ⟨#[v]⟩ 0 ps.length s = p :: ps := by
  have h1 := Lib.splitB_data ⟨#[v]⟩ 0 ps.length s
  rw [hs] at h1
  have h2 := splitK_join v (ps.map (·.data.toList)) p.data.toList ps.length (fun x hx => by
    rcases List.mem_cons.1 hx with rfl | hx
    · exact h p (by simp)
    · obtain ⟨y, hy, rfl⟩ := List.mem_map.1 hx
      exact h y (List.mem_cons_of_mem _ hy)) (by simp)
  have h3 : (Lib.splitB ⟨#[v]⟩ 0 ps.length s).map (·.data.toList) = (p :: ps).map (·.data.toList) := h1.trans h2
  exact map_bytes_inj h3
theorem count_join (v : UInt8) (s p : ByteArray) (ps : List ByteArray) (h : ∀ x ∈ p :: ps, v ∉ x.data.toList) (hs : s.data.toList = p.data.toList ++ ((ps.map (·.data.toList)).map (v :: ·)).flatten) : Lib.countB s ⟨#[v]⟩ = ps.length := by
  show Lib.count s.data.toList [v] = ps.length
  rw [Lib.count_one, hs, List.count_append, List.count_eq_zero.2 (h p (by simp))]
  clear hs
  induction ps with
  | nil => simp
  | cons q qs ih =>
    have h1 := ih (fun x hx => h x ((List.mem_cons.1 hx).elim (fun e => by simp [e]) (fun g => by simp [g])))
    have h2 := List.count_eq_zero.2 (h q (by simp))
    simp only [List.map_cons, List.flatten_cons, List.count_append, List.count_cons_self, List.length_cons]
    omega
/-- strings.Split by a blank of a text that was joined from words without a blank: a row of its own with these words. -/
theorem splitWords (s p : ByteArray) (ps : List ByteArray) (w : World) (h : ∀ x ∈ p :: ps, (32 : UInt8) ∉ x.data.toList) (hs : s.data.toList = p.data.toList ++ ((ps.map (·.data.toList)).map ((32 : UInt8) :: ·)).flatten) (hz : s.size ≤ 1048576) (hx : Mx w) :
    Calls Tryd.prog 24 #[.string s, .string ⟨#[32]⟩] w fun e w' => e = .returned (.slice (some ⟨w.heap.size, 0, none⟩) (ps.length + 1) (ps.length + 1)) ∧ w' = w.alloc (.cells ((p :: ps).map Value.string).toArray 9) := by
  obtain ⟨m, hm⟩ := hx
  have := Tryd.strings_Split s ⟨#[32]⟩ m w (by omega) hm (by decide)
  rw [count_join 32 s p ps h hs, splitB_join 32 s p ps h hs] at this
  exact this
theorem splitLock (w : World) (hx : Mx w) : Calls Tryd.prog 24 #[.string ⟨#[108, 111, 99, 107, 32, 63]⟩, .string ⟨#[32]⟩] w fun e w' => e = .returned (.slice (some ⟨w.heap.size, 0, none⟩) 2 2) ∧ w' = w.alloc (.cells #[.string ⟨#[108, 111, 99, 107]⟩, .string ⟨#[63]⟩] 9) :=
  splitWords _ ⟨#[108, 111, 99, 107]⟩ [⟨#[63]⟩] w (by decide) rfl (by decide) hx
end Go.Proofs.YtkdolpgnaabdaabDoor
