/- Texts that are joined: VesTx. -/
import Derived.Test.YtliebicnejbheabGreatDoorMg06
import Derived.Test.YtliebicnejbheabGreatDoorMg17
import Derived.Test.YtliebicnejbheabGreatDoorMg21
import Derived.Test.YtliebicnejbheabGreatDoorMg12
import Derived.BigQuiet
/- Chapter 3: the text of a vessel, the model. -/
namespace Go.Proofs.YtliebicnejbheabGreatDoor
open Go.RowKit Go.PlainAid Go.Sort

/-- The text of a vessel with the kind's word. -/
def vtxt (i : Int) (s : ByteArray) (l b d : Int) (word : ByteArray) : ByteArray := numB i ++ ⟨#[32]⟩ ++ s ++ ⟨#[32]⟩ ++ word ++ ⟨#[32]⟩ ++ numB l ++ ⟨#[120]⟩ ++ numB b ++ ⟨#[32, 100, 114, 97, 117, 103, 104, 116, 32]⟩ ++ numB d

theorem vNew' (w : World) (cs : Array Value) (t : TypeId) (k : Nat) : (w.alloc (.cells cs t)).cell? ⟨w.heap.size, k, none⟩ = cs[k]? :=
  cell_of_row _ _ k cs t (0, 0) (heap_alloc_new w _)

set_option maxHeartbeats 400000 in
theorem kinds_any (w : World) : Calls Tryz.prog 38 #[] w fun e w' => e = .returned (.slice (some ⟨w.heap.size, 0, none⟩) 5 5) ∧ w' = w.alloc (.cells #[.string ⟨#[]⟩, .string ⟨#[98, 97, 114, 103, 101]⟩, .string ⟨#[116, 97, 110, 107, 101, 114]⟩, .string ⟨#[112, 97, 115, 115, 101, 110, 103, 101, 114]⟩, .string ⟨#[112, 108, 101, 97, 115, 117, 114, 101]⟩] 9) := by
  go_enter Tryz.func38, Tryz.ntmps38
  go_wp2
  go_ret
  exact ⟨rfl, rfl⟩

set_option maxRecDepth 100000 in
set_option maxHeartbeats 8000000 in
theorem l3Text_any (i : Int) (s : ByteArray) (l b d : Int) (q : Nat) (word : ByteArray) (w : World) (hi : 0 ≤ i ∧ i ≤ 1000) (hl : 0 ≤ l ∧ l ≤ 1000) (hb : 0 ≤ b ∧ b ≤ 1000) (hd : 0 ≤ d ∧ d ≤ 1000) (hs : s.size ≤ 10) (hws : word.size ≤ 10) (hq : q < 5)
    (hw : (#[.string ⟨#[]⟩, .string ⟨#[98, 97, 114, 103, 101]⟩, .string ⟨#[116, 97, 110, 107, 101, 114]⟩, .string ⟨#[112, 97, 115, 115, 101, 110, 103, 101, 114]⟩, .string ⟨#[112, 108, 101, 97, 115, 117, 114, 101]⟩] : Array Value)[q]? = some (.string word)) :
    Calls Tryz.prog 25 #[.agg #[.int .i64 i, .string s, .int .i64 l, .int .i64 b, .int .i64 d, .int .i64 (q : Int)]] w fun e w' => e = .returned (.string (vtxt i s l b d word)) ∧ Below w.heap.size w w' := by
  obtain ⟨i0, i1⟩ := hi
  obtain ⟨l0, l1⟩ := hl
  obtain ⟨b0, b1⟩ := hb
  obtain ⟨d0, d1⟩ := hd
  have ni := numB_size i (by omega) (by omega)
  have nl := numB_size l (by omega) (by omega)
  have nb := numB_size b (by omega) (by omega)
  have nd := numB_size d (by omega) (by omega)
  have z1 : (⟨#[32]⟩ : ByteArray).size = 1 := rfl
  have z2 : (⟨#[120]⟩ : ByteArray).size = 1 := rfl
  have z3 : (⟨#[32, 100, 114, 97, 117, 103, 104, 116, 32]⟩ : ByteArray).size = 9 := rfl
  have hq0 : (0 : Int) ≤ (q : Int) := by omega
  have hq5 : (q : Int) < 5 := by omega
  go_enter Tryz.func25, Tryz.ntmps25
  go_wp2_with fail
  refine region_inv (by kernel_rfl) (by kernel_rfl) (fun L a W => ∃ (x2 x3 x4 x5 x6 x7 x8 x9 x10 x11 x12 x13 x14 x15 x16 x17 x18 x19 x20 x21 x22 x23 x24 x25 x26 x27 x28 x29 x30 x31 : Value), a = { tmps := #[.agg #[.int .i64 i, .string s, .int .i64 l, .int .i64 b, .int .i64 d, .int .i64 (q : Int)], .pointer (some ⟨w.heap.size, 0, none⟩), x2, x3, x4, x5, x6, x7, x8, x9, x10, x11, x12, x13, x14, x15, x16, x17, x18, x19, x20, x21, x22, x23, x24, x25, x26, x27, x28, x29, x30, x31], defers := [] } ∧ Below (w.heap.size + 1) (w.alloc (.cells #[.int .i64 i, .string s, .int .i64 l, .int .i64 b, .int .i64 d, .int .i64 (q : Int)] 25)) W ∧
      (L 0 = true → x3 = .pointer (some ⟨w.heap.size, 0, none⟩)) ∧
      (L 1 = true → x4 = .int .i64 i) ∧
      (L 2 = true → x5 = .string (numB i)) ∧
      (L 3 = true → x6 = .string (numB i ++ ⟨#[32]⟩)) ∧
      (L 4 = true → x7 = .pointer (some ⟨w.heap.size, 1, none⟩)) ∧
      (L 5 = true → x8 = .string s) ∧
      (L 6 = true → x9 = .string (numB i ++ ⟨#[32]⟩ ++ s)) ∧
      (L 7 = true → x10 = .string (numB i ++ ⟨#[32]⟩ ++ s ++ ⟨#[32]⟩)) ∧
      (L 8 = true → ∃ g, x11 = .slice (some ⟨g, 0, none⟩) 5 5 ∧ W.heap[g]? = some (.cells #[.string ⟨#[]⟩, .string ⟨#[98, 97, 114, 103, 101]⟩, .string ⟨#[116, 97, 110, 107, 101, 114]⟩, .string ⟨#[112, 97, 115, 115, 101, 110, 103, 101, 114]⟩, .string ⟨#[112, 108, 101, 97, 115, 117, 114, 101]⟩] 9 (0, 0))) ∧
      (L 9 = true → x12 = .pointer (some ⟨w.heap.size, 5, none⟩)) ∧
      (L 10 = true → x13 = .int .i64 (q : Int)) ∧
      (L 11 = true → ∃ g, x14 = .pointer (some ⟨g, q, none⟩) ∧ W.heap[g]? = some (.cells #[.string ⟨#[]⟩, .string ⟨#[98, 97, 114, 103, 101]⟩, .string ⟨#[116, 97, 110, 107, 101, 114]⟩, .string ⟨#[112, 97, 115, 115, 101, 110, 103, 101, 114]⟩, .string ⟨#[112, 108, 101, 97, 115, 117, 114, 101]⟩] 9 (0, 0))) ∧
      (L 12 = true → x15 = .string word) ∧
      (L 13 = true → x16 = .string (numB i ++ ⟨#[32]⟩ ++ s ++ ⟨#[32]⟩ ++ word)) ∧
      (L 14 = true → x17 = .string (numB i ++ ⟨#[32]⟩ ++ s ++ ⟨#[32]⟩ ++ word ++ ⟨#[32]⟩)) ∧
      (L 15 = true → x18 = .pointer (some ⟨w.heap.size, 2, none⟩)) ∧
      (L 16 = true → x19 = .int .i64 l) ∧
      (L 17 = true → x20 = .string (numB l)) ∧
      (L 18 = true → x21 = .string (numB i ++ ⟨#[32]⟩ ++ s ++ ⟨#[32]⟩ ++ word ++ ⟨#[32]⟩ ++ numB l)) ∧
      (L 19 = true → x22 = .string (numB i ++ ⟨#[32]⟩ ++ s ++ ⟨#[32]⟩ ++ word ++ ⟨#[32]⟩ ++ numB l ++ ⟨#[120]⟩)) ∧
      (L 20 = true → x23 = .pointer (some ⟨w.heap.size, 3, none⟩)) ∧
      (L 21 = true → x24 = .int .i64 b) ∧
      (L 22 = true → x25 = .string (numB b)) ∧
      (L 23 = true → x26 = .string (numB i ++ ⟨#[32]⟩ ++ s ++ ⟨#[32]⟩ ++ word ++ ⟨#[32]⟩ ++ numB l ++ ⟨#[120]⟩ ++ numB b)) ∧
      (L 24 = true → x27 = .string (numB i ++ ⟨#[32]⟩ ++ s ++ ⟨#[32]⟩ ++ word ++ ⟨#[32]⟩ ++ numB l ++ ⟨#[120]⟩ ++ numB b ++ ⟨#[32, 100, 114, 97, 117, 103, 104, 116, 32]⟩)) ∧
      (L 25 = true → x28 = .pointer (some ⟨w.heap.size, 4, none⟩)) ∧
      (L 26 = true → x29 = .int .i64 d) ∧
      (L 27 = true → x30 = .string (numB d)) ∧
      (L 28 = true → x31 = .string (numB i ++ ⟨#[32]⟩ ++ s ++ ⟨#[32]⟩ ++ word ++ ⟨#[32]⟩ ++ numB l ++ ⟨#[120]⟩ ++ numB b ++ ⟨#[32, 100, 114, 97, 117, 103, 104, 116, 32]⟩ ++ numB d)) ∧
      (L 29 = true → x2 = .string (numB i ++ ⟨#[32]⟩ ++ s ++ ⟨#[32]⟩ ++ word ++ ⟨#[32]⟩ ++ numB l ++ ⟨#[120]⟩ ++ numB b ++ ⟨#[32, 100, 114, 97, 117, 103, 104, 116, 32]⟩ ++ numB d))) ?_ ?_ ?_
  · exact ⟨_, _, _, _, _, _, _, _, _, _, _, _, _, _, _, _, _, _, _, _, _, _, _, _, _, _, _, _, _, _, rfl, (Drawn.one (w.alloc (.cells #[.int .i64 i, .string s, .int .i64 l, .int .i64 b, .int .i64 d, .int .i64 (q : Int)] 25)) 1).below _, (fun q0 => nomatch q0), (fun q0 => nomatch q0), (fun q0 => nomatch q0), (fun q0 => nomatch q0), (fun q0 => nomatch q0), (fun q0 => nomatch q0), (fun q0 => nomatch q0), (fun q0 => nomatch q0), (fun q0 => nomatch q0), (fun q0 => nomatch q0), (fun q0 => nomatch q0), (fun q0 => nomatch q0), (fun q0 => nomatch q0), (fun q0 => nomatch q0), (fun q0 => nomatch q0), (fun q0 => nomatch q0), (fun q0 => nomatch q0), (fun q0 => nomatch q0), (fun q0 => nomatch q0), (fun q0 => nomatch q0), (fun q0 => nomatch q0), (fun q0 => nomatch q0), (fun q0 => nomatch q0), (fun q0 => nomatch q0), (fun q0 => nomatch q0), (fun q0 => nomatch q0), (fun q0 => nomatch q0), (fun q0 => nomatch q0), (fun q0 => nomatch q0), (fun q0 => nomatch q0)⟩
  · intro L a W i9 o hJ ho hL hdep K' hK
    obtain ⟨x2, x3, x4, x5, x6, x7, x8, x9, x10, x11, x12, x13, x14, x15, x16, x17, x18, x19, x20, x21, x22, x23, x24, x25, x26, x27, x28, x29, x30, x31, rfl, hB, h0, h1, h2, h3, h4, h5, h6, h7, h8, h9, h10, h11, h12, h13, h14, h15, h16, h17, h18, h19, h20, h21, h22, h23, h24, h25, h26, h27, h28, h29⟩ := hJ
    have hi9 : i9 < 30 := by simpa using (Array.getElem?_eq_some_iff.1 ho).1
    have hB1 : w.heap.size + 1 ≤ W.heap.size := by have := hB.size; simpa using this
    have C0 : W.cell? ⟨w.heap.size, 0, none⟩ = some (.int .i64 i) := (hB.cell (by simp)).trans (by rw [vNew']; rfl)
    have C1 : W.cell? ⟨w.heap.size, 1, none⟩ = some (.string s) := (hB.cell (by simp)).trans (by rw [vNew']; rfl)
    have C2 : W.cell? ⟨w.heap.size, 2, none⟩ = some (.int .i64 l) := (hB.cell (by simp)).trans (by rw [vNew']; rfl)
    have C3 : W.cell? ⟨w.heap.size, 3, none⟩ = some (.int .i64 b) := (hB.cell (by simp)).trans (by rw [vNew']; rfl)
    have C4 : W.cell? ⟨w.heap.size, 4, none⟩ = some (.int .i64 d) := (hB.cell (by simp)).trans (by rw [vNew']; rfl)
    have C5 : W.cell? ⟨w.heap.size, 5, none⟩ = some (.int .i64 (q : Int)) := (hB.cell (by simp)).trans (by rw [vNew']; rfl)
    obtain rfl | rfl | rfl | rfl | rfl | rfl | rfl | rfl | rfl | rfl | rfl | rfl | rfl | rfl | rfl | rfl | rfl | rfl | rfl | rfl | rfl | rfl | rfl | rfl | rfl | rfl | rfl | rfl | rfl | rfl : i9 = 0 ∨ i9 = 1 ∨ i9 = 2 ∨ i9 = 3 ∨ i9 = 4 ∨ i9 = 5 ∨ i9 = 6 ∨ i9 = 7 ∨ i9 = 8 ∨ i9 = 9 ∨ i9 = 10 ∨ i9 = 11 ∨ i9 = 12 ∨ i9 = 13 ∨ i9 = 14 ∨ i9 = 15 ∨ i9 = 16 ∨ i9 = 17 ∨ i9 = 18 ∨ i9 = 19 ∨ i9 = 20 ∨ i9 = 21 ∨ i9 = 22 ∨ i9 = 23 ∨ i9 = 24 ∨ i9 = 25 ∨ i9 = 26 ∨ i9 = 27 ∨ i9 = 28 ∨ i9 = 29 := by omega
    · -- operation 0
      cases ho
      go_simp
      exact hK _ _ ⟨_, _, _, _, _, _, _, _, _, _, _, _, _, _, _, _, _, _, _, _, _, _, _, _, _, _, _, _, _, _, rfl, hB, fun _ => rfl, h1, h2, h3, h4, h5, h6, h7, h8, h9, h10, h11, h12, h13, h14, h15, h16, h17, h18, h19, h20, h21, h22, h23, h24, h25, h26, h27, h28, h29⟩
    · -- operation 1
      cases ho
      obtain rfl := h0 (hdep ⟨0, .data⟩ (by simp) rfl)
      go_simp
      exact hK _ _ ⟨_, _, _, _, _, _, _, _, _, _, _, _, _, _, _, _, _, _, _, _, _, _, _, _, _, _, _, _, _, _, rfl, hB, h0, fun _ => rfl, h2, h3, h4, h5, h6, h7, h8, h9, h10, h11, h12, h13, h14, h15, h16, h17, h18, h19, h20, h21, h22, h23, h24, h25, h26, h27, h28, h29⟩
    · -- operation 2
      cases ho
      obtain rfl := h1 (hdep ⟨1, .data⟩ (by simp) rfl)
      go_simp
      refine (num_any _ _ (by omega) (by omega)).mono ?_
      rintro e w9 ⟨rfl, hD⟩
      have hb9 := hD.below W.heap.size
      exact hK _ _ ⟨_, _, _, _, _, _, _, _, _, _, _, _, _, _, _, _, _, _, _, _, _, _, _, _, _, _, _, _, _, _, rfl, hB.trans (hb9.mono hB1), h0, h1, fun _ => rfl, h3, h4, h5, h6, h7, fun q0 => let ⟨g, e, hp⟩ := h8 q0; ⟨g, e, (hb9.block g (Array.getElem?_eq_some_iff.1 hp).1).trans hp⟩, h9, h10, fun q0 => let ⟨g, e, hp⟩ := h11 q0; ⟨g, e, (hb9.block g (Array.getElem?_eq_some_iff.1 hp).1).trans hp⟩, h12, h13, h14, h15, h16, h17, h18, h19, h20, h21, h22, h23, h24, h25, h26, h27, h28, h29⟩
    · -- operation 3
      cases ho
      obtain rfl := h2 (hdep ⟨2, .data⟩ (by simp) rfl)
      go_simp
      rw [if_neg (by first | omega | (simp only [ByteArray.size_append]; omega))]
      go_simp
      exact hK _ _ ⟨_, _, _, _, _, _, _, _, _, _, _, _, _, _, _, _, _, _, _, _, _, _, _, _, _, _, _, _, _, _, rfl, hB, h0, h1, h2, fun _ => rfl, h4, h5, h6, h7, h8, h9, h10, h11, h12, h13, h14, h15, h16, h17, h18, h19, h20, h21, h22, h23, h24, h25, h26, h27, h28, h29⟩
    · -- operation 4
      cases ho
      go_simp
      exact hK _ _ ⟨_, _, _, _, _, _, _, _, _, _, _, _, _, _, _, _, _, _, _, _, _, _, _, _, _, _, _, _, _, _, rfl, hB, h0, h1, h2, h3, fun _ => rfl, h5, h6, h7, h8, h9, h10, h11, h12, h13, h14, h15, h16, h17, h18, h19, h20, h21, h22, h23, h24, h25, h26, h27, h28, h29⟩
    · -- operation 5
      cases ho
      obtain rfl := h4 (hdep ⟨4, .data⟩ (by simp) rfl)
      go_simp
      exact hK _ _ ⟨_, _, _, _, _, _, _, _, _, _, _, _, _, _, _, _, _, _, _, _, _, _, _, _, _, _, _, _, _, _, rfl, hB, h0, h1, h2, h3, h4, fun _ => rfl, h6, h7, h8, h9, h10, h11, h12, h13, h14, h15, h16, h17, h18, h19, h20, h21, h22, h23, h24, h25, h26, h27, h28, h29⟩
    · -- operation 6
      cases ho
      obtain rfl := h3 (hdep ⟨3, .data⟩ (by simp) rfl)
      obtain rfl := h5 (hdep ⟨5, .data⟩ (by simp) rfl)
      go_simp
      rw [if_neg (by first | omega | (simp only [ByteArray.size_append]; omega))]
      go_simp
      exact hK _ _ ⟨_, _, _, _, _, _, _, _, _, _, _, _, _, _, _, _, _, _, _, _, _, _, _, _, _, _, _, _, _, _, rfl, hB, h0, h1, h2, h3, h4, h5, fun _ => rfl, h7, h8, h9, h10, h11, h12, h13, h14, h15, h16, h17, h18, h19, h20, h21, h22, h23, h24, h25, h26, h27, h28, h29⟩
    · -- operation 7
      cases ho
      obtain rfl := h6 (hdep ⟨6, .data⟩ (by simp) rfl)
      go_simp
      rw [if_neg (by first | omega | (simp only [ByteArray.size_append]; omega))]
      go_simp
      exact hK _ _ ⟨_, _, _, _, _, _, _, _, _, _, _, _, _, _, _, _, _, _, _, _, _, _, _, _, _, _, _, _, _, _, rfl, hB, h0, h1, h2, h3, h4, h5, h6, fun _ => rfl, h8, h9, h10, h11, h12, h13, h14, h15, h16, h17, h18, h19, h20, h21, h22, h23, h24, h25, h26, h27, h28, h29⟩
    · -- operation 8
      cases ho
      go_simp
      refine (kinds_any _).mono ?_
      rintro e w9 ⟨rfl, rfl⟩
      have hb9 := (Below.refl W.heap.size W).alloc (Nat.le_refl _) (.cells #[.string ⟨#[]⟩, .string ⟨#[98, 97, 114, 103, 101]⟩, .string ⟨#[116, 97, 110, 107, 101, 114]⟩, .string ⟨#[112, 97, 115, 115, 101, 110, 103, 101, 114]⟩, .string ⟨#[112, 108, 101, 97, 115, 117, 114, 101]⟩] 9)
      exact hK _ _ ⟨_, _, _, _, _, _, _, _, _, _, _, _, _, _, _, _, _, _, _, _, _, _, _, _, _, _, _, _, _, _, rfl, hB.trans (hb9.mono hB1), h0, h1, h2, h3, h4, h5, h6, h7, fun _ => ⟨_, rfl, heap_alloc_new W _⟩, h9, h10, fun q0 => let ⟨g, e, hp⟩ := h11 q0; ⟨g, e, (hb9.block g (Array.getElem?_eq_some_iff.1 hp).1).trans hp⟩, h12, h13, h14, h15, h16, h17, h18, h19, h20, h21, h22, h23, h24, h25, h26, h27, h28, h29⟩
    · -- operation 9
      cases ho
      go_simp
      exact hK _ _ ⟨_, _, _, _, _, _, _, _, _, _, _, _, _, _, _, _, _, _, _, _, _, _, _, _, _, _, _, _, _, _, rfl, hB, h0, h1, h2, h3, h4, h5, h6, h7, h8, fun _ => rfl, h10, h11, h12, h13, h14, h15, h16, h17, h18, h19, h20, h21, h22, h23, h24, h25, h26, h27, h28, h29⟩
    · -- operation 10
      cases ho
      obtain rfl := h9 (hdep ⟨9, .data⟩ (by simp) rfl)
      go_simp
      exact hK _ _ ⟨_, _, _, _, _, _, _, _, _, _, _, _, _, _, _, _, _, _, _, _, _, _, _, _, _, _, _, _, _, _, rfl, hB, h0, h1, h2, h3, h4, h5, h6, h7, h8, h9, fun _ => rfl, h11, h12, h13, h14, h15, h16, h17, h18, h19, h20, h21, h22, h23, h24, h25, h26, h27, h28, h29⟩
    · -- operation 11
      cases ho
      have hd8 := hdep ⟨8, .data⟩ (by simp) rfl
      obtain ⟨g8, rfl, hp8⟩ := h8 hd8
      obtain rfl := h10 (hdep ⟨10, .data⟩ (by simp) rfl)
      go_simp
      exact hK _ _ ⟨_, _, _, _, _, _, _, _, _, _, _, _, _, _, _, _, _, _, _, _, _, _, _, _, _, _, _, _, _, _, rfl, hB, h0, h1, h2, h3, h4, h5, h6, h7, (fun _ => ⟨_, rfl, hp8⟩), h9, h10, fun _ => ⟨_, rfl, hp8⟩, h12, h13, h14, h15, h16, h17, h18, h19, h20, h21, h22, h23, h24, h25, h26, h27, h28, h29⟩
    · -- operation 12
      cases ho
      have hd11 := hdep ⟨11, .data⟩ (by simp) rfl
      obtain ⟨g11, rfl, hp11⟩ := h11 hd11
      have hcl := (cell_of_row W g11 q _ _ _ hp11).trans hw
      go_simp
      exact hK _ _ ⟨_, _, _, _, _, _, _, _, _, _, _, _, _, _, _, _, _, _, _, _, _, _, _, _, _, _, _, _, _, _, rfl, hB, h0, h1, h2, h3, h4, h5, h6, h7, h8, h9, h10, (fun _ => ⟨_, rfl, hp11⟩), fun _ => rfl, h13, h14, h15, h16, h17, h18, h19, h20, h21, h22, h23, h24, h25, h26, h27, h28, h29⟩
    · -- operation 13
      cases ho
      obtain rfl := h7 (hdep ⟨7, .data⟩ (by simp) rfl)
      obtain rfl := h12 (hdep ⟨12, .data⟩ (by simp) rfl)
      go_simp
      rw [if_neg (by first | omega | (simp only [ByteArray.size_append]; omega))]
      go_simp
      exact hK _ _ ⟨_, _, _, _, _, _, _, _, _, _, _, _, _, _, _, _, _, _, _, _, _, _, _, _, _, _, _, _, _, _, rfl, hB, h0, h1, h2, h3, h4, h5, h6, h7, h8, h9, h10, h11, h12, fun _ => rfl, h14, h15, h16, h17, h18, h19, h20, h21, h22, h23, h24, h25, h26, h27, h28, h29⟩
    · -- operation 14
      cases ho
      obtain rfl := h13 (hdep ⟨13, .data⟩ (by simp) rfl)
      go_simp
      rw [if_neg (by first | omega | (simp only [ByteArray.size_append]; omega))]
      go_simp
      exact hK _ _ ⟨_, _, _, _, _, _, _, _, _, _, _, _, _, _, _, _, _, _, _, _, _, _, _, _, _, _, _, _, _, _, rfl, hB, h0, h1, h2, h3, h4, h5, h6, h7, h8, h9, h10, h11, h12, h13, fun _ => rfl, h15, h16, h17, h18, h19, h20, h21, h22, h23, h24, h25, h26, h27, h28, h29⟩
    · -- operation 15
      cases ho
      go_simp
      exact hK _ _ ⟨_, _, _, _, _, _, _, _, _, _, _, _, _, _, _, _, _, _, _, _, _, _, _, _, _, _, _, _, _, _, rfl, hB, h0, h1, h2, h3, h4, h5, h6, h7, h8, h9, h10, h11, h12, h13, h14, fun _ => rfl, h16, h17, h18, h19, h20, h21, h22, h23, h24, h25, h26, h27, h28, h29⟩
    · -- operation 16
      cases ho
      obtain rfl := h15 (hdep ⟨15, .data⟩ (by simp) rfl)
      go_simp
      exact hK _ _ ⟨_, _, _, _, _, _, _, _, _, _, _, _, _, _, _, _, _, _, _, _, _, _, _, _, _, _, _, _, _, _, rfl, hB, h0, h1, h2, h3, h4, h5, h6, h7, h8, h9, h10, h11, h12, h13, h14, h15, fun _ => rfl, h17, h18, h19, h20, h21, h22, h23, h24, h25, h26, h27, h28, h29⟩
    · -- operation 17
      cases ho
      obtain rfl := h16 (hdep ⟨16, .data⟩ (by simp) rfl)
      go_simp
      refine (num_any _ _ (by omega) (by omega)).mono ?_
      rintro e w9 ⟨rfl, hD⟩
      have hb9 := hD.below W.heap.size
      exact hK _ _ ⟨_, _, _, _, _, _, _, _, _, _, _, _, _, _, _, _, _, _, _, _, _, _, _, _, _, _, _, _, _, _, rfl, hB.trans (hb9.mono hB1), h0, h1, h2, h3, h4, h5, h6, h7, fun q0 => let ⟨g, e, hp⟩ := h8 q0; ⟨g, e, (hb9.block g (Array.getElem?_eq_some_iff.1 hp).1).trans hp⟩, h9, h10, fun q0 => let ⟨g, e, hp⟩ := h11 q0; ⟨g, e, (hb9.block g (Array.getElem?_eq_some_iff.1 hp).1).trans hp⟩, h12, h13, h14, h15, h16, fun _ => rfl, h18, h19, h20, h21, h22, h23, h24, h25, h26, h27, h28, h29⟩
    · -- operation 18
      cases ho
      obtain rfl := h14 (hdep ⟨14, .data⟩ (by simp) rfl)
      obtain rfl := h17 (hdep ⟨17, .data⟩ (by simp) rfl)
      go_simp
      rw [if_neg (by first | omega | (simp only [ByteArray.size_append]; omega))]
      go_simp
      exact hK _ _ ⟨_, _, _, _, _, _, _, _, _, _, _, _, _, _, _, _, _, _, _, _, _, _, _, _, _, _, _, _, _, _, rfl, hB, h0, h1, h2, h3, h4, h5, h6, h7, h8, h9, h10, h11, h12, h13, h14, h15, h16, h17, fun _ => rfl, h19, h20, h21, h22, h23, h24, h25, h26, h27, h28, h29⟩
    · -- operation 19
      cases ho
      obtain rfl := h18 (hdep ⟨18, .data⟩ (by simp) rfl)
      go_simp
      rw [if_neg (by first | omega | (simp only [ByteArray.size_append]; omega))]
      go_simp
      exact hK _ _ ⟨_, _, _, _, _, _, _, _, _, _, _, _, _, _, _, _, _, _, _, _, _, _, _, _, _, _, _, _, _, _, rfl, hB, h0, h1, h2, h3, h4, h5, h6, h7, h8, h9, h10, h11, h12, h13, h14, h15, h16, h17, h18, fun _ => rfl, h20, h21, h22, h23, h24, h25, h26, h27, h28, h29⟩
    · -- operation 20
      cases ho
      go_simp
      exact hK _ _ ⟨_, _, _, _, _, _, _, _, _, _, _, _, _, _, _, _, _, _, _, _, _, _, _, _, _, _, _, _, _, _, rfl, hB, h0, h1, h2, h3, h4, h5, h6, h7, h8, h9, h10, h11, h12, h13, h14, h15, h16, h17, h18, h19, fun _ => rfl, h21, h22, h23, h24, h25, h26, h27, h28, h29⟩
    · -- operation 21
      cases ho
      obtain rfl := h20 (hdep ⟨20, .data⟩ (by simp) rfl)
      go_simp
      exact hK _ _ ⟨_, _, _, _, _, _, _, _, _, _, _, _, _, _, _, _, _, _, _, _, _, _, _, _, _, _, _, _, _, _, rfl, hB, h0, h1, h2, h3, h4, h5, h6, h7, h8, h9, h10, h11, h12, h13, h14, h15, h16, h17, h18, h19, h20, fun _ => rfl, h22, h23, h24, h25, h26, h27, h28, h29⟩
    · -- operation 22
      cases ho
      obtain rfl := h21 (hdep ⟨21, .data⟩ (by simp) rfl)
      go_simp
      refine (num_any _ _ (by omega) (by omega)).mono ?_
      rintro e w9 ⟨rfl, hD⟩
      have hb9 := hD.below W.heap.size
      exact hK _ _ ⟨_, _, _, _, _, _, _, _, _, _, _, _, _, _, _, _, _, _, _, _, _, _, _, _, _, _, _, _, _, _, rfl, hB.trans (hb9.mono hB1), h0, h1, h2, h3, h4, h5, h6, h7, fun q0 => let ⟨g, e, hp⟩ := h8 q0; ⟨g, e, (hb9.block g (Array.getElem?_eq_some_iff.1 hp).1).trans hp⟩, h9, h10, fun q0 => let ⟨g, e, hp⟩ := h11 q0; ⟨g, e, (hb9.block g (Array.getElem?_eq_some_iff.1 hp).1).trans hp⟩, h12, h13, h14, h15, h16, h17, h18, h19, h20, h21, fun _ => rfl, h23, h24, h25, h26, h27, h28, h29⟩
    · -- operation 23
      cases ho
      obtain rfl := h19 (hdep ⟨19, .data⟩ (by simp) rfl)
      obtain rfl := h22 (hdep ⟨22, .data⟩ (by simp) rfl)
      go_simp
      rw [if_neg (by first | omega | (simp only [ByteArray.size_append]; omega))]
      go_simp
      exact hK _ _ ⟨_, _, _, _, _, _, _, _, _, _, _, _, _, _, _, _, _, _, _, _, _, _, _, _, _, _, _, _, _, _, rfl, hB, h0, h1, h2, h3, h4, h5, h6, h7, h8, h9, h10, h11, h12, h13, h14, h15, h16, h17, h18, h19, h20, h21, h22, fun _ => rfl, h24, h25, h26, h27, h28, h29⟩
    · -- operation 24
      cases ho
      obtain rfl := h23 (hdep ⟨23, .data⟩ (by simp) rfl)
      go_simp
      rw [if_neg (by first | omega | (simp only [ByteArray.size_append]; omega))]
      go_simp
      exact hK _ _ ⟨_, _, _, _, _, _, _, _, _, _, _, _, _, _, _, _, _, _, _, _, _, _, _, _, _, _, _, _, _, _, rfl, hB, h0, h1, h2, h3, h4, h5, h6, h7, h8, h9, h10, h11, h12, h13, h14, h15, h16, h17, h18, h19, h20, h21, h22, h23, fun _ => rfl, h25, h26, h27, h28, h29⟩
    · -- operation 25
      cases ho
      go_simp
      exact hK _ _ ⟨_, _, _, _, _, _, _, _, _, _, _, _, _, _, _, _, _, _, _, _, _, _, _, _, _, _, _, _, _, _, rfl, hB, h0, h1, h2, h3, h4, h5, h6, h7, h8, h9, h10, h11, h12, h13, h14, h15, h16, h17, h18, h19, h20, h21, h22, h23, h24, fun _ => rfl, h26, h27, h28, h29⟩
    · -- operation 26
      cases ho
      obtain rfl := h25 (hdep ⟨25, .data⟩ (by simp) rfl)
      go_simp
      exact hK _ _ ⟨_, _, _, _, _, _, _, _, _, _, _, _, _, _, _, _, _, _, _, _, _, _, _, _, _, _, _, _, _, _, rfl, hB, h0, h1, h2, h3, h4, h5, h6, h7, h8, h9, h10, h11, h12, h13, h14, h15, h16, h17, h18, h19, h20, h21, h22, h23, h24, h25, fun _ => rfl, h27, h28, h29⟩
    · -- operation 27
      cases ho
      obtain rfl := h26 (hdep ⟨26, .data⟩ (by simp) rfl)
      go_simp
      refine (num_any _ _ (by omega) (by omega)).mono ?_
      rintro e w9 ⟨rfl, hD⟩
      have hb9 := hD.below W.heap.size
      exact hK _ _ ⟨_, _, _, _, _, _, _, _, _, _, _, _, _, _, _, _, _, _, _, _, _, _, _, _, _, _, _, _, _, _, rfl, hB.trans (hb9.mono hB1), h0, h1, h2, h3, h4, h5, h6, h7, fun q0 => let ⟨g, e, hp⟩ := h8 q0; ⟨g, e, (hb9.block g (Array.getElem?_eq_some_iff.1 hp).1).trans hp⟩, h9, h10, fun q0 => let ⟨g, e, hp⟩ := h11 q0; ⟨g, e, (hb9.block g (Array.getElem?_eq_some_iff.1 hp).1).trans hp⟩, h12, h13, h14, h15, h16, h17, h18, h19, h20, h21, h22, h23, h24, h25, h26, fun _ => rfl, h28, h29⟩
    · -- operation 28
      cases ho
      obtain rfl := h24 (hdep ⟨24, .data⟩ (by simp) rfl)
      obtain rfl := h27 (hdep ⟨27, .data⟩ (by simp) rfl)
      go_simp
      rw [if_neg (by first | omega | (simp only [ByteArray.size_append]; omega))]
      go_simp
      exact hK _ _ ⟨_, _, _, _, _, _, _, _, _, _, _, _, _, _, _, _, _, _, _, _, _, _, _, _, _, _, _, _, _, _, rfl, hB, h0, h1, h2, h3, h4, h5, h6, h7, h8, h9, h10, h11, h12, h13, h14, h15, h16, h17, h18, h19, h20, h21, h22, h23, h24, h25, h26, h27, fun _ => rfl, h29⟩
    · -- operation 29
      cases ho
      obtain rfl := h28 (hdep ⟨28, .data⟩ (by simp) rfl)
      go_simp
      exact hK _ _ ⟨_, _, _, _, _, _, _, _, _, _, _, _, _, _, _, _, _, _, _, _, _, _, _, _, _, _, _, _, _, _, rfl, hB, h0, h1, h2, h3, h4, h5, h6, h7, h8, h9, h10, h11, h12, h13, h14, h15, h16, h17, h18, h19, h20, h21, h22, h23, h24, h25, h26, h27, h28, fun _ => rfl⟩
  · intro L a W hJ hall
    obtain ⟨x2, x3, x4, x5, x6, x7, x8, x9, x10, x11, x12, x13, x14, x15, x16, x17, x18, x19, x20, x21, x22, x23, x24, x25, x26, x27, x28, x29, x30, x31, rfl, hB, h0, h1, h2, h3, h4, h5, h6, h7, h8, h9, h10, h11, h12, h13, h14, h15, h16, h17, h18, h19, h20, h21, h22, h23, h24, h25, h26, h27, h28, h29⟩ := hJ
    obtain rfl := h29 (hall 29 (by decide))
    go_wp2_with fail
    go_ret
    exact ⟨rfl, ((Below.refl _ w).alloc (Nat.le_refl _) _).trans (hB.mono (by omega))⟩
end Go.Proofs.YtliebicnejbheabGreatDoor
