/- What the law on strings and checksums draws. -/
import Derived.Test.YtcbdifmnbolgpaaDoorDraw
import Derived.Test.YtcbdifmnbolgpaaDoorNum
namespace Go.Proofs.YtcbdifmnbolgpaaDoor
open Go.RowKit Go.PlainAid

set_option maxHeartbeats 1000000 in
/-- One of some numbers. -/
theorem among_at {g : Nat} {A : Option Addr} {n c : Nat} {p : Int} {zs : List Int} {B : Nat} {w : World} (h : CurAt w g A n c p zs B) (hp1 : p ≤ 900000000) (g2 m c2 : Nat) (ns : List Int) (hm : ns.length = m) (hm0 : 0 < m) (hm1 : m ≤ 1000000)
    (hh : ∀ k (hk : k < ns.length), w.cell? ⟨g2, k, none⟩ = some (.int .i64 ns[k])) (hne : g2 ≠ g) :
    Calls Tryd.prog 21 #[.pointer (some ⟨g, 0, none⟩), .slice (some ⟨g2, 0, none⟩) m c2] w fun e w' => ∃ z ∈ ns, e = .returned (.int .i64 z) ∧ CurStep w w' g A n c p 2 := by
  have H := Lib.hid h
  have HH := Lib.hid hh
  have HM := Lib.hid hm
  clear h hh hm
  go_enter Tryd.func21, Tryd.ntmps21
  go_wp2_with fail
  refine (pick_at H.out hp1 m (by omega)).mono ?_
  rintro e w1 ⟨b1, b10, b11, rfl, hs1⟩
  obtain ⟨k, rfl⟩ : ∃ k : Nat, b1 = (k : Int) := ⟨b1.toNat, by omega⟩
  have hk : k < ns.length := by rw [HM.out]; omega
  have hk1 : (k : Int) < (m : Int) := by omega
  have hc := HH.out k hk
  have hlt : g2 < w.heap.size := World.block_lt_of_cell? w (a := ⟨g2, k, none⟩) hc
  have hc1 : w1.cell? ⟨g2, k, none⟩ = some (.int .i64 ns[k]) := (World.cell?_of_block (a := ⟨g2, k, none⟩) (hs1.grown.block g2 hlt (fun e => hne (by cases e; rfl)))).trans hc
  have HS := Lib.hid hs1
  have hmem : Hid (ns[k] ∈ ns) := Lib.hid (List.getElem_mem _)
  generalize ns[k] = s at hc1 hmem
  clear hc hs1 b11
  go_wp2_with fail
  refine bodyPost_ret (results_tmp rfl _ _ _) rfl ?_
  exact ⟨s, hmem.out, rfl, HS.out⟩

set_option maxHeartbeats 1000000 in
theorem drawFmt {A : Option Addr} {n : Nat} {zs : List Int} {B : Nat} {w : World} (c : Nat) (h : Code_ w A n zs B) :
    Calls Tryd.prog 9 #[.slice A n c] w fun e w' => ∃ x : Int, -1000000 ≤ x ∧ x ≤ 1000000 ∧ e = .returned (.int .i64 x) ∧ Below w.heap.size w w' := by
  have H := Lib.hid (h.start c)
  clear h
  go_enter Tryd.func9, Tryd.ntmps9
  go_wp2_with fail
  refine (pick_at H.out (by omega) 1000 (by omega)).mono ?_
  rintro e w1 ⟨b, b0, b1, rfl, hst⟩
  have hb1 : b ≤ 1000 := by omega
  obtain ⟨q, q0, q1, H1⟩ := H.out.step hst
  have H1' := Lib.hid (fun (o : Obj) => H1.kept (World.grownBy_alloc w1 o none) (by simp) (fun r e => by cases e))
  have hlt := H1.lt
  clear H1
  go_wp2_with fail
  refine (among_at (H1'.out _) (by omega) w1.heap.size 9 9 [0, 1, -1, 10, 999999, -999999, 1000000, -1000000, b - 500] rfl (by omega) (by omega) (by
    intro k hk
    rw [cell_new]
    match k, hk with
    | 0, _ => rfl
    | 1, _ => rfl
    | 2, _ => rfl
    | 3, _ => rfl
    | 4, _ => rfl
    | 5, _ => rfl
    | 6, _ => rfl
    | 7, _ => rfl
    | 8, _ => rfl) (by omega)).mono ?_
  rintro e w2 ⟨z, hz, rfl, hst2⟩
  have hz2 : -1000000 ≤ z ∧ z ≤ 1000000 := by
    simp only [List.mem_cons, List.not_mem_nil, or_false] at hz
    omega
  have hb := below_start (World.grownBy.trans (World.grownBy.trans hst.grown (World.grownBy_alloc w1 _ _)) hst2.grown)
  clear hst hst2 hz
  go_wp2_with fail
  refine bodyPost_ret (results_tmp rfl _ _ _) rfl ?_
  exact ⟨z, hz2.1, hz2.2, rfl, hb⟩

def parseTexts : List ByteArray := [⟨#[]⟩, ⟨#[45]⟩, ⟨#[45, 48]⟩, ⟨#[48, 48]⟩, ⟨#[48, 49]⟩, ⟨#[45, 45, 49]⟩, ⟨#[49, 120]⟩, ⟨#[57, 57, 57, 57, 57, 57]⟩, ⟨#[49, 48, 48, 48, 48, 48, 48]⟩, ⟨#[45, 57, 57, 57, 57, 57, 57]⟩, ⟨#[49, 56, 52, 52, 54, 55, 52, 52, 48, 55, 51, 55, 48, 57, 53, 53, 49, 54, 49, 55]⟩]
theorem parseTexts_small : ∀ s ∈ parseTexts, s.size ≤ 32 := by decide +kernel

set_option maxHeartbeats 1000000 in
theorem drawParse {A : Option Addr} {n : Nat} {zs : List Int} {B : Nat} {w : World} (c : Nat) (h : Code_ w A n zs B) :
    Calls Tryd.prog 12 #[.slice A n c] w fun e w' => ∃ s : ByteArray, s.size ≤ 32 ∧ e = .returned (.string s) ∧ Below w.heap.size w w' := by
  have H := Lib.hid (h.start c)
  clear h
  go_enter Tryd.func12, Tryd.ntmps12
  go_wp2_with fail
  refine (one_at H.out (by omega) 2 (by omega)).mono ?_
  rintro e w1 ⟨b, rfl, hst⟩
  obtain ⟨q, q0, q1, H1⟩ := H.out.step hst
  have hlt := H1.lt
  have H1' := Lib.hid (fun (o : Obj) => H1.kept (World.grownBy_alloc w1 o none) (by simp) (fun r e => by cases e))
  have H2' := Lib.hid H1
  clear H1
  cases b with
  | true =>
    go_wp2_with fail
    refine (of_at (H1'.out _) (by omega) w1.heap.size 11 11 parseTexts rfl (by omega) (by omega) (by
      intro k hk
      rw [cell_new]
      match k, hk with
      | 0, _ => rfl
      | 1, _ => rfl
      | 2, _ => rfl
      | 3, _ => rfl
      | 4, _ => rfl
      | 5, _ => rfl
      | 6, _ => rfl
      | 7, _ => rfl
      | 8, _ => rfl
      | 9, _ => rfl
      | 10, _ => rfl) (by omega)).mono ?_
    rintro e w2 ⟨s, hs, rfl, hst2⟩
    have hs2 := parseTexts_small s hs
    have hb := below_start (World.grownBy.trans (World.grownBy.trans hst.grown (World.grownBy_alloc w1 _ _)) hst2.grown)
    clear hst hst2 hs
    go_wp2_with fail
    refine bodyPost_ret (results_tmp rfl _ _ _) rfl ?_
    exact ⟨s, hs2, rfl, hb⟩
  | false =>
    go_wp2_with fail
    refine (pick_at H2'.out (by omega) 2000 (by omega)).mono ?_
    rintro e w2 ⟨x, x0, x1, rfl, hst2⟩
    have hx : x ≤ 2000 := by omega
    have hb := below_start (World.grownBy.trans hst.grown hst2.grown)
    clear hst hst2 x1
    go_wp2_with fail
    refine (num_any (x - 1000) _ (by omega) (by omega)).mono ?_
    rintro e w3 ⟨rfl, hD⟩
    have hn := numB_size (x - 1000) (by omega) (by omega)
    have hbb := hb.trans (hD.below _)
    generalize numB (x - 1000) = s at hn ⊢
    clear hb hD
    go_wp2_with fail
    refine bodyPost_ret (results_tmp rfl _ _ _) rfl ?_
    exact ⟨s, by omega, rfl, hbb⟩

set_option maxHeartbeats 1000000 in
theorem drawApp {A : Option Addr} {n : Nat} {zs : List Int} {B : Nat} {w : World} (c : Nat) (h : Code_ w A n zs B) :
    Calls Tryd.prog 15 #[.slice A n c] w fun e w' => ∃ s : ByteArray, s.size ≤ 4010 ∧ e = .returned (.string s) ∧ Below w.heap.size w w' := by
  have H := Lib.hid (h.start c)
  clear h
  go_enter Tryd.func15, Tryd.ntmps15
  go_wp2_with fail
  refine (one_at H.out (by omega) 20 (by omega)).mono ?_
  rintro e w1 ⟨b, rfl, hst⟩
  obtain ⟨q, q0, q1, H1⟩ := H.out.step hst
  have H2' := Lib.hid H1
  clear H1
  cases b with
  | true =>
    go_wp2_with fail
    refine (pick_at H2'.out (by omega) 10 (by omega)).mono ?_
    rintro e w2 ⟨x, x0, x1, rfl, hst2⟩
    obtain ⟨kn, rfl⟩ : ∃ kn : Nat, x = (kn : Int) := ⟨x.toNat, by omega⟩
    have hkn : kn < 10 := by omega
    have hb := below_start (World.grownBy.trans hst.grown hst2.grown)
    have hbz := hb.size
    obtain ⟨j0, hj, hjz, hj1, hj2⟩ := info_parts Tryd.info5''
    clear hst hst2 x1
    go_wp2_with (at_make; refine wpList_make_full _ rfl _ _ 22 rfl w2.heap.size 5 j0 (.int .u8 0) 1 Tryd.underlying22 hj hjz hj1 _ _ _ _ (3990 + kn) rfl rfl (by omega) (by omega) (by rw [hj2]; omega) (by unfold maxLen; omega) (Nat.le_refl _) ?_; intro w4 own4 hgrow4; have hcv := run_zeros (P := Tryd.prog) 22 9 5 Tryd.underlying22 Tryd.underlying5 Tryd.underlying9 (3990 + kn) w4 own4; refine Hid.out ?_)
    have hzl : (⟨(List.replicate (3990 + kn) (0 : UInt8)).toArray⟩ : ByteArray).size = 3990 + kn := by
      show (List.replicate (3990 + kn) (0 : UInt8)).toArray.size = _
      simp
    have hzl2 : (⟨(List.replicate (3990 + kn) (0 : UInt8)).toArray⟩ : ByteArray).size ≤ 4010 := by omega
    generalize (⟨(List.replicate (3990 + kn) (0 : UInt8)).toArray⟩ : ByteArray) = s at hcv hzl2 hzl
    have hb4 := hb.grown hgrow4 hbz (fun k e => by cases e)
    clear own4 hgrow4 hb hzl
    refine Lib.hid ?_
    go_wp2_with fail
    refine bodyPost_ret (results_tmp rfl _ _ _) rfl ?_
    exact ⟨s, hzl2, rfl, hb4⟩
  | false =>
    go_wp2_with fail
    refine (any1_at H2'.out (by omega)).mono ?_
    rintro e w2 ⟨s, hs, rfl, hst2⟩
    have hb := below_start (World.grownBy.trans hst.grown hst2.grown)
    clear hst hst2
    go_wp2_with fail
    refine bodyPost_ret (results_tmp rfl _ _ _) rfl ?_
    exact ⟨s, by omega, rfl, hb⟩
end Go.Proofs.YtcbdifmnbolgpaaDoor
