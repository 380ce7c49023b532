/- One of some numbers: a contract of the cursor. -/
import Derived.Test.YtdjoiodkmanacaaDraw
namespace Go.Proofs.Ytdjoiodkmanacaa
open Go.RowKit Go.PlainAid

set_option maxHeartbeats 1000000 in
/-- One of some numbers. -/
theorem amongN_at {g : Nat} {A : Option Addr} {n c : Nat} {p : Int} {zs : List Int} {B : Nat} {w : World} (h : CurAt w g A n c p zs B) (hp1 : p ≤ 900000000) (g2 m c2 : Nat) (ns : List Int) (hm : ns.length = m) (hm0 : 0 < m) (hm1 : m ≤ 1000000)
    (hh : ∀ k (hk : k < ns.length), w.cell? ⟨g2, k, none⟩ = some (.int .i64 ns[k])) (hne : g2 ≠ g) :
    Calls Try.prog 79 #[.pointer (some ⟨g, 0, none⟩), .slice (some ⟨g2, 0, none⟩) m c2] w fun e w' => ∃ z ∈ ns, e = .returned (.int .i64 z) ∧ CurStep w w' g A n c p 2 := by
  have H := Lib.hid h
  have HH := Lib.hid hh
  have HM := Lib.hid hm
  clear h hh hm
  go_enter Try.func79, Try.ntmps79
  go_wp2_with fail
  refine (pick_at H.out hp1 m (by omega)).mono ?_
  rintro e w1 ⟨b1, b10, b11, rfl, hs1⟩
  obtain ⟨k, rfl⟩ : ∃ k : Nat, b1 = (k : Int) := ⟨b1.toNat, by omega⟩
  have hk : k < ns.length := by rw [HM.out]; omega
  have hk1 : (k : Int) < (m : Int) := by omega
  have hc := HH.out k hk
  have hlt : g2 < w.heap.size := World.block_lt_of_cell? w (a := ⟨g2, k, none⟩) hc
  have hc1 : w1.cell? ⟨g2, k, none⟩ = some (.int .i64 ns[k]) := (World.cell?_of_block (a := ⟨g2, k, none⟩) (hs1.grown.block g2 hlt (fun e => hne (by cases e; rfl)))).trans hc
  have HS := Lib.hid hs1
  have hmem : Hid (ns[k] ∈ ns) := Lib.hid (List.getElem_mem _)
  generalize ns[k] = s at hc1 hmem
  clear hc hs1 b11
  go_wp2_with fail
  refine bodyPost_ret (results_tmp rfl _ _ _) rfl ?_
  exact ⟨s, hmem.out, rfl, HS.out⟩

end Go.Proofs.Ytdjoiodkmanacaa
