/- Chapter 3: ParseVessel, the model. -/
import Derived.Test.YtgadceelbeacgaaDoorVesKin
import Derived.Test.YtgadceelbeacgaaDoorSplit2
import Derived.Test.YtgadceelbeacgaaDoorInv
namespace Go.Proofs.YtgadceelbeacgaaDoor
open Go.RowKit Go.PlainAid Go.Sort

abbrev vt (u : Ves) : ByteArray := vtxt u.id u.name u.len u.wid u.dr (kindB u.kind)
def zVes : Ves := ⟨0, ⟨#[]⟩, 0, 0, 0, 0⟩
/-- What ParseVessel answers. -/
structure Parsed (t : ByteArray) (v : Ves) (x : Bool) : Prop where
  yes : ∀ u, goodV u → vt u = t → v = u ∧ x = true
  no : (∀ u, goodV u → vt u ≠ t) → v = zVes ∧ x = false
theorem parsed_ex (t : ByteArray) : ∃ (v : Ves) (x : Bool), Parsed t v x := by
  rcases Classical.em (∃ u, goodV u ∧ vt u = t) with ⟨u, hu, he⟩ | h
  · exact ⟨u, true, ⟨fun u' hu' he' => ⟨vtxt_one hu hu' (he.trans he'.symm), rfl⟩, fun g => absurd he (g u hu)⟩⟩
  · exact ⟨zVes, false, ⟨fun u hu he => absurd ⟨u, hu, he⟩ h, fun _ => ⟨rfl, rfl⟩⟩⟩
theorem numB_999 {n : Int} (h0 : 0 ≤ n) (h1 : n ≤ 999) : (numB n).size ≤ 3 := by
  obtain ⟨x, rfl⟩ : ∃ x : Nat, n = (x : Int) := ⟨n.toNat, by omega⟩
  rw [numB_sz]
  exact nDig_le x 2 (by omega)
theorem vt_parts {u : Ves} {t : ByteArray} (hg : goodV u) (h : vt u = t) : t.size ≤ 60 ∧ parts t 32 = [numB u.id, u.name, kindB u.kind, wLW u.len u.wid, wDr, numB u.dr] := by
  refine ⟨?_, by rw [← h]; exact words_V _ _ _ _ _ _ (no_small hg.2.1 32 (by decide)) (kind_no _ 32 (by decide))⟩
  rw [← h]
  obtain ⟨h1, h2, h3, h4, h5, h6⟩ := hg
  have n1 := numB_999 (n := u.id) (by omega) (by omega)
  have n2 := numB_999 (n := u.len) (by omega) (by omega)
  have n3 := numB_999 (n := u.wid) (by omega) (by omega)
  have n4 := numB_999 (n := u.dr) (by omega) (by omega)
  have n5 := kind_size u.kind
  have n6 := h2.1.2
  have z1 : (⟨#[32]⟩ : ByteArray).size = 1 := rfl
  have z2 : (⟨#[120]⟩ : ByteArray).size = 1 := rfl
  have z3 : (⟨#[32, 100, 114, 97, 117, 103, 104, 116, 32]⟩ : ByteArray).size = 9 := rfl
  unfold vt vtxt
  simp only [ByteArray.size_append]
  omega
theorem spl_size (s : ByteArray) (v : Int) : ∀ k, k ≤ s.size → ∀ x ∈ (spl s v k).1, x.size ≤ s.size
  | 0, _, x, h => by simp [spl] at h
  | k + 1, hk, x, h => by
    have ih := spl_size s v k (by omega)
    simp only [spl] at h
    split at h
    · rcases List.mem_append.1 h with h1 | h1
      · exact ih x h1
      · obtain rfl := List.mem_singleton.1 h1
        rw [ByteArray.size_extract]
        omega
    · exact ih x h
theorem parts_size (s : ByteArray) (v : Int) : ∀ x ∈ parts s v, x.size ≤ s.size := by
  intro x h
  unfold parts at h
  rcases List.mem_append.1 h with h1 | h1
  · exact spl_size s v _ (Nat.le_refl _) x h1
  · obtain rfl := List.mem_singleton.1 h1
    rw [ByteArray.size_extract]
    omega
/-- The words of a list of six. -/
theorem six {ws : List ByteArray} (h : ws.length = 6) : ∃ a b c d e f, ws = [a, b, c, d, e, f] := by
  match ws, h with
  | [a, b, c, d, e, f], _ => exact ⟨a, b, c, d, e, f, rfl⟩
theorem two {ws : List ByteArray} (h : ws.length = 2) : ∃ a b, ws = [a, b] := by
  match ws, h with
  | [a, b], _ => exact ⟨a, b, rfl⟩
theorem strs_at {w : World} {base g c : Nat} {ss : List ByteArray} (h : w.ownsRow base 9 1 (.slice (some ⟨g, 0, none⟩) ss.length c) ss.length (ss.map .string)) {k : Nat} (hk : k < ss.length) : w.cell? ⟨g, k, none⟩ = some (.string ss[k]) := by
  have := h.cellAt k (by omega)
  rw [this]
  simp [hk]
/-- What the model's reading of a word tells. -/
theorem read_pair (s : ByteArray) (hs : s.size ≤ 1048576) : ∃ (n : Int) (b : Bool), (-999999 ≤ n ∧ n ≤ 999999) ∧ (b = true → numB n = s) ∧ (∀ m : Int, 0 ≤ m → m ≤ 999 → numB m = s → n = m ∧ b = true) ∧
    ∀ W, Calls Tryd.prog 34 #[.string s] W fun e w' => e = .returned (.tuple #[.int .i64 n, .bool b]) ∧ Drawn W w' := by
  refine ⟨(rdO s).getD 0, (rdO s).isSome, ?_, fun h => ?_, fun m h0 h1 h2 => ?_, fun W => l1Read_any s W hs⟩
  · cases e : rdO s with
    | none => show (-999999 : Int) ≤ 0 ∧ (0 : Int) ≤ 999999; omega
    | some n => obtain ⟨a, b, -⟩ := rdO_some e; exact ⟨a, b⟩
  · cases e : rdO s with
    | none => rw [e] at h; cases h
    | some n => exact (rdO_some e).2.2
  · rw [← h2, rdO_num m (by omega) (by omega)]
    exact ⟨rfl, rfl⟩
end Go.Proofs.YtgadceelbeacgaaDoor
