/- Chapter 4: the spots that the laws draw. -/
import Derived.Test.YtdleidlmjliapaaCgD
import Derived.Test.YtdleidlmjliapaaChO
import Derived.Test.YtdleidlmjliapaaInv
namespace Go.Proofs.Ytdleidlmjliapaa
open Go.RowKit Go.PlainAid Go.Sort
set_option linter.unusedVariables false
set_option linter.unusedSimpArgs false

theorem own_past {w : World} {B : Nat} {e : TypeId} {s n : Nat} {v : Value} {xs : List Value} (h : w.ownsRow B e s v n xs) {g : Nat} (hg : g < B) : v.ownBlock ≠ some g := by
  intro hv
  have := (h.lt g hv).1
  omega
/-- Nothing is said of the worlds but that blocks stay. -/
structure UpW (B : Nat) (w W : World) : Prop where
  size : w.heap.size ≤ W.heap.size
theorem UpW.of {B : Nat} {w W : World} (h : Below B w W) : UpW B w W := ⟨h.size⟩
theorem UpW.trans {B : Nat} {w W W' : World} (h : UpW B w W) (k : UpW B W W') : UpW B w W' := ⟨Nat.le_trans h.size k.size⟩
theorem UpW.mono {B B' : Nat} {w W : World} (h : UpW B w W) (_ : B' ≤ B) : UpW B' w W := ⟨h.size⟩
theorem UpW.grown {B : Nat} {w W : World} {r : Option Nat} (h : w.grownBy W r) : UpW B w W := ⟨h.size⟩
theorem UpW.set {B : Nat} {w W : World} (h : UpW B w W) (p : Addr) (u : Value) : UpW B w (W.setCell p u) := ⟨by simpa [World.setCell] using h.size⟩
theorem bN (b : Bool) : b.toNat ≤ 1 := by cases b <;> simp
/-- Spots in a row of one's own. -/
structure SpS (B : Nat) (W : World) (g1 q c1 : Nat) (L : List TSpot) : Prop where
  r : W.ownsRow B 42 2 (.slice (some ⟨g1, 0, none⟩) q c1) q (flatSpot L)
section
variable {B : Nat} {W W' : World} {g1 q c1 : Nat} {L : List TSpot}
theorem SpS.len (h : SpS B W g1 q c1 L) : L.length = q := by have := h.r.1; rw [flatSpot_len] at this; omega
theorem SpS.below (h : SpS B W g1 q c1 L) (hb : Below W.heap.size W W') : SpS B W' g1 q c1 L := ⟨own_below h.r hb⟩
theorem SpS.kept {g : Nat} (h : SpS B W g1 q c1 L) (hg : W.grownBy W' (some g)) (hB : g < B) (_ : True) (_ : True) : SpS B W' g1 q c1 L := ⟨h.r.kept hg (.inr (own_past h.r hB))⟩
theorem SpS.at (h : SpS B W g1 q c1 L) {i : Nat} (hi : i < q) : W.cell? ⟨g1, i * 2, none⟩ = some (.int .i64 (L.getD i noSpot).x0) ∧ W.cell? ⟨g1, i * 2 + 1, none⟩ = some (.int .i64 (L.getD i noSpot).x1) := by
  have hl := h.len
  obtain ⟨f0, f1⟩ := flatSpot_at L i (by omega)
  rw [getSpot (by omega)]
  exact ⟨(h.r.cellAt (i * 2) (by omega)).trans f0, (h.r.cellAt (i * 2 + 1) (by omega)).trans f1⟩
theorem SpS.set (h : SpS B W g1 q c1 L) {i : Nat} (hi : i < q) (x y : Int) : SpS B ((W.setCell ⟨g1, i * 2, none⟩ (.int .i64 x)).setCell ⟨g1, i * 2 + 1, none⟩ (.int .i64 y)) g1 q c1 (L.set i ⟨x, y⟩) ∧ W.grownBy ((W.setCell ⟨g1, i * 2, none⟩ (.int .i64 x)).setCell ⟨g1, i * 2 + 1, none⟩ (.int .i64 y)) (some g1) := by
  have s0 := h.r.stored (i * 2) (.int .i64 x)
  have s1 := s0.1.stored (i * 2 + 1) (.int .i64 y)
  have ho := s1.1
  rw [show (((flatSpot L).set (i * 2) (.int .i64 x)).set (i * 2 + 1) (.int .i64 y)) = flatSpot (L.set i ⟨x, y⟩) from (flatSpot_set L i ⟨x, y⟩ (by have := h.len; omega)).symm] at ho
  exact ⟨⟨ho⟩, s0.2.trans s1.2⟩
end
theorem CurStep.row {w W W' : World} {g : Nat} {A : Option Addr} {n c : Nat} {p d : Int} {v : Value} (h : CurStep w W g A n c p d) (hg : W.grownBy W' v.ownBlock) {e : TypeId} {s m : Nat} {xs : List Value} (ho : W.ownsRow w.heap.size e s v m xs) (hl : g < w.heap.size) : CurStep w W' g A n c p d := by
  cases hv : v.ownBlock with
  | none =>
    rw [hv] at hg
    exact h.on ⟨hg.os, hg.tape, hg.output, hg.size, fun k hk => hg.block k hk (by simp)⟩
  | some b =>
    rw [hv] at hg
    have := (ho.lt b hv).1
    exact h.own hg this (by omega)
theorem cell_2S (w : World) (a b : Value) (t : TypeId) : ∀ j u, [a, b][j]? = some u → (w.alloc (.cells #[a, b] t)).cell? ((⟨w.heap.size, 0, none⟩ : Addr).add j) = some u := by
  intro j u h
  rw [addO, Nat.zero_add, sNew]
  simpa using h
theorem FirstA.len8 {c : TChamber} {hs : List THull} {L : List TSpot} {x : Bool} (h : FirstA c hs L x) : L.length ≤ 4 := by
  by_cases g : (decide (goodC c) && gHs hs) = false
  · rw [(h.bad g).1]; simp
  · obtain ⟨hc, hg⟩ := good_of (by simpa using g : (decide (goodC c) && gHs hs) = true)
    cases e : search c hs [] with
    | none => rw [(h.no hc hg e).1]; simp
    | some r =>
      rw [(h.yes r hc hg e).1]
      obtain ⟨-, e', h1, h2⟩ := search_some hs [] r trivial e
      have h3 := congrArg List.length h2
      rw [List.append_nil] at h1
      subst h1
      simp at h3
      have := hg.1
      simp
      omega
theorem spot_one : ∀ (L : List TSpot), ∀ u ∈ flatSpot L, u.oneCell' = true
  | [], u, h => absurd h (by simp [flatSpot])
  | v :: t, u, h => by
    simp only [flatSpot, List.mem_cons] at h
    rcases h with rfl | rfl | h
    · rfl
    · rfl
    · exact spot_one t u h
def GivesSp (w : World) (g : Nat) (A : Option Addr) (n c : Nat) (p : Int) (e : Ending) (w' : World) : Prop :=
  ∃ (g1 q c1 : Nat) (L : List TSpot), e = .returned (.slice (some ⟨g1, 0, none⟩) q c1) ∧ q ≤ 40 ∧ SpS w.heap.size w' g1 q c1 L ∧ CurStep w w' g A n c p 200
set_option maxRecDepth 100000 in
set_option maxHeartbeats 8000000 in
theorem spots_at {g : Nat} {A : Option Addr} {n c : Nat} {p : Int} {zs : List Int} {B : Nat} {w : World} (h : CurAt w g A n c p zs B) (hp : p ≤ 800000000) (cl cb : Int) {B1 n1 : Nat} (c9 : Nat) {A1 : Option Addr} {hs : List THull} (hH : IsHulls w B1 A1 n1 hs) (hn8 : n1 ≤ 8) :
    Calls Try.prog 75 #[.pointer (some ⟨g, 0, none⟩), .agg #[.int .i64 cl, .int .i64 cb], .slice A1 n1 c9] w (GivesSp w g A n c p) := by
  obtain ⟨i0, hi, hz0, hz1, hz2⟩ := info_parts Try.infoSpot'
  have H := Lib.hid h
  have hgl := h.lt
  have hp0 := h.p0
  have S1 := Lib.hid ((CurStep.refl h.cur).alloc (.cells #[.int .i64 cl, .int .i64 cb] 25))
  obtain ⟨L, x, hA⟩ := firstA_ex ⟨cl, cb⟩ hs
  have hL4 := hA.len8
  have C := Lib.hid (firstS_any cl cb c9 (hH.below (below1x w (.cells #[.int .i64 cl, .int .i64 cb] 25)) hH.low) (by omega) L x hA)
  clear h hH hA
  go_enter Try.func75, Try.ntmps75
  go_wp2_with fail
  refine C.out.mono ?_
  rintro e wA ⟨g0, c0, rfl, hown, hb⟩
  obtain ⟨q, hq⟩ : ∃ q, L.length = q := ⟨_, rfl⟩
  rw [hq] at hown
  try rw [hq]
  have P2 : Hid (SpS w.heap.size wA g0 q c0 L) := Lib.hid ⟨own_low hown (by simp)⟩
  have S2 := Lib.hid (S1.out.on hb)
  have hq4 : q ≤ 4 := by omega
  clear hown hb C S1 hq hL4
  have HI0 := Lib.hid (by decide : True)
  cases x with
  | true =>
    clear HI0 hn8
    -- the copy, then one of them drawn anew
    obtain ⟨r0, hr0⟩ : ∃ x, wA.alloc (.cells #[] 42) = x := ⟨_, rfl⟩
    have HE := Lib.hid (World.ownsRow_made (size := 2) (e := 42) (base := w.heap.size) wA #[] 0 S2.out.grown.size (by unfold maxLen; omega) rfl)
    have HPA := Lib.hid (P2.out.below (below1x wA (.cells #[] 42)))
    have HSA := Lib.hid (S2.out.alloc (.cells #[] 42))
    have HSZ := Lib.hid S2.out.grown.size
    have hfl : (flatSpot L).length = q * 2 := by rw [flatSpot_len, P2.out.len]; omega
    clear P2 S2 hr0 r0
    go_wp2_with (at_builtin; go_loud (refine wpList_append_own _ rfl (.tmp 33) (.tmp 34) 29 rfl w.heap.size 42 i0 (.agg #[.int .i64 0, .int .i64 0]) 2 16 Try.underlying29 hi hz0 hz1 hz2 rfl (by decide) (.slice (some ⟨wA.heap.size, 0, none⟩) 0 0) 0 [] rfl HE.out ⟨g0, 0, none⟩ q c0 (flatSpot L) rfl hfl (fun j u hu => by rw [addO, Nat.zero_add]; have := HPA.out.r.cellAt j (by have := (List.getElem?_eq_some_iff.1 hu).1; omega); rw [this]; exact hu) (spot_one L) (by unfold maxLen; omega) (by omega) (by have := HSZ.out; simp; omega) ?_; intro v1 w6 hown1 hgrow1 hnil1; obtain ⟨g5, c5, rfl, hg5⟩ := own_some hown1 (fun e => nomatch (hnil1.1 e).1); have S9 := Lib.hid (HSA.out.row hgrow1 HE.out hgl); have P9 : Hid (SpS w.heap.size w6 g5 q c5 L) := Lib.hid ⟨by simpa using hown1⟩; clear hnil1 hgrow1 hown1 HPA HSA HSZ HE hfl; refine Hid.out ?_))
    obtain ⟨g1, hg1x⟩ : ∃ x, x = g5 := ⟨_, rfl⟩
    subst hg1x
    obtain ⟨c1, hc1x⟩ : ∃ x, x = c5 := ⟨_, rfl⟩
    subst hc1x
    have S10 := Lib.hid (S9.out.mono (d' := 62) (by omega))
    have P10 := P9
    clear S9 P9
    by_cases hq0 : 0 < q
    · have hq0i : (0 : Int) < (q : Int) := by omega
      refine Lib.hid ?_
      obtain ⟨r5, r50, r51, H5⟩ := S10.out.at H.out
      go_wp2_with fail
      refine (one_at H5 (by omega) 4 (by omega)).mono ?_
      rintro e w7 ⟨y, rfl, hs⟩
      have S11 := Lib.hid (S10.out.then hs r50 r51)
      have P11 := Lib.hid (P10.out.kept hs.grown hgl trivial trivial)
      clear hs H5 r50 r51 S10 P10
      cases y with
      | true =>
        obtain ⟨r5, r50, r51, H5⟩ := S11.out.at H.out
        go_wp2_with fail
        refine (pick_at H5 (by omega) (q : Int) (by omega)).mono ?_
        rintro e w2 ⟨b9, b90, b91, rfl, hs⟩
        obtain ⟨i, rfl⟩ : ∃ i : Nat, b9 = (i : Int) := ⟨b9.toNat, by omega⟩
        have hiq : i < q := by omega
        have hi0 : (0 : Int) ≤ (i : Int) := by omega
        have hi1 : (i : Int) < (q : Int) := by omega
        obtain ⟨D9, hD9⟩ : ∃ d : Int, d = 66 := ⟨_, rfl⟩
        have S6 : Hid (CurStep w w2 g A n c p D9) := Lib.hid ((S11.out.then hs r50 r51).mono (by omega))
        have P6 := Lib.hid (P11.out.kept hs.grown hgl trivial trivial)
        have hg1 := (P6.out.r.lt g1 rfl).1
        have hgb := trivial
        have hgb3 := trivial
        clear hs H5 r50 r51 S11 P11 b90 b91
        go_wp2_with fail
        refine region_inv (by kernel_rfl) (by kernel_rfl) (fun Fl9 ac W => ∃ (x47 x48 x49 x50 x51 x52 x53 x54 x55 x56 x57 x58 x59 x60 x61 x62 x63 x64 x65 x66 x67 x68 : Value), ac = { tmps := #[Value.pointer (some ⟨g, 0, none⟩), Value.agg #[Value.int IntKind.i64 cl, Value.int IntKind.i64 cb], Value.slice A1 n1 c9, undef, Value.pointer (some ⟨w.heap.size, 0, none⟩), undef, Value.slice none 0 0, Value.slice (some ⟨g1, 0, none⟩) q c1, Value.bool true, undef, Value.int IntKind.i64 (i : Int), Value.tuple #[Value.slice (some ⟨g0, 0, none⟩) q c0, Value.bool true], Value.agg #[Value.int IntKind.i64 cl, Value.int IntKind.i64 cb], Value.slice A1 n1 c9, Value.tuple #[Value.slice (some ⟨g0, 0, none⟩) q c0, Value.bool true], Value.slice (some ⟨g0, 0, none⟩) q c0, Value.bool true, Value.bool true, Value.bool false, undef, undef, undef, undef, undef, undef, undef, undef, undef, undef, undef, undef, undef, undef, Value.slice (some ⟨wA.heap.size, 0, none⟩) 0 0, Value.slice (some ⟨g0, 0, none⟩) q c0, Value.slice (some ⟨g1, 0, none⟩) q c1, Value.slice (some ⟨g1, 0, none⟩) q c1, Value.int IntKind.i64 (q : Int), Value.bool true, Value.bool true, Value.pointer (some ⟨g, 0, none⟩), Value.bool true, Value.bool true, Value.pointer (some ⟨g, 0, none⟩), Value.slice (some ⟨g1, 0, none⟩) q c1, Value.int IntKind.i64 (q : Int), Value.int IntKind.i64 (i : Int), x47, x48, x49, x50, x51, x52, x53, x54, x55, x56, x57, x58, x59, x60, x61, x62, x63, x64, x65, x66, x67, x68, undef, undef, undef, undef, undef, undef, undef], defers := [] } ∧ UpW w2.heap.size w2 W ∧
              (Fl9 0 = true → x47 = .slice (some ⟨g1, 0, none⟩) q c1) ∧
              (Fl9 1 = true → x48 = .int .i64 (i : Int)) ∧
              (Fl9 2 = true → x49 = .slice (some ⟨g1, 0, none⟩) q c1) ∧
              (Fl9 3 = true → x50 = .int .i64 (i : Int)) ∧
              (Fl9 4 = true → x51 = .pointer (some ⟨g1, i * 2, none⟩)) ∧
              (Fl9 5 = true → x52 = .pointer (some ⟨g1, i * 2, none⟩)) ∧
              (Fl9 6 = true → x53 = .int .i64 (L.getD i noSpot).x0) ∧
              (Fl9 7 = true → x54 = .pointer (some ⟨g, 0, none⟩)) ∧
              (Fl9 8 = true → ∃ z9 : Int, x55 = .int .i64 z9 ∧ 0 ≤ z9 ∧ z9 ≤ 2) ∧
              (Fl9 9 = true → ∃ z9 : Int, x56 = .int .i64 z9) ∧
              (Fl9 10 = true → ∃ z9 : Int, x57 = .int .i64 z9) ∧
              (Fl9 11 = true → x58 = .slice (some ⟨g1, 0, none⟩) q c1) ∧
              (Fl9 12 = true → x59 = .int .i64 (i : Int)) ∧
              (Fl9 13 = true → x60 = .pointer (some ⟨g1, i * 2, none⟩)) ∧
              (Fl9 14 = true → x61 = .pointer (some ⟨g1, i * 2 + 1, none⟩)) ∧
              (Fl9 15 = true → x62 = .int .i64 (L.getD i noSpot).x1) ∧
              (Fl9 16 = true → x63 = .pointer (some ⟨g, 0, none⟩)) ∧
              (Fl9 17 = true → ∃ z9 : Int, x64 = .int .i64 z9 ∧ 0 ≤ z9 ∧ z9 ≤ 2) ∧
              (Fl9 18 = true → ∃ z9 : Int, x65 = .int .i64 z9) ∧
              (Fl9 19 = true → ∃ z9 : Int, x66 = .int .i64 z9) ∧
              (Fl9 20 = true → ∃ y1 y2 : Int, x67 = .agg #[.int .i64 y1, .int .i64 y2]) ∧
              (Fl9 21 = true → x68 = .pointer (some ⟨g1, i * 2, none⟩)) ∧
              (Fl9 22 = true → ∃ y1 y2 : Int, SpS w.heap.size W g1 q c1 (L.set i ⟨y1, y2⟩)) ∧
              (Fl9 22 = false → SpS w.heap.size W g1 q c1 L) ∧
              (True → CurStep w W g A n c p (D9 + 2 * (((Fl9 8).toNat : Int) + ((Fl9 17).toNat : Int)))) ∧
              (Fl9 22 = true → Fl9 6 = true) ∧
              (Fl9 22 = true → Fl9 15 = true) ∧
              (Fl9 22 = true → Fl9 8 = true) ∧
              (Fl9 22 = true → Fl9 17 = true)) ?_ ?_ ?_
        · exact ⟨_, _, _, _, _, _, _, _, _, _, _, _, _, _, _, _, _, _, _, _, _, _, rfl, UpW.of ((Drawn.one w2 1).below _), (fun q0 => nomatch q0), (fun q0 => nomatch q0), (fun q0 => nomatch q0), (fun q0 => nomatch q0), (fun q0 => nomatch q0), (fun q0 => nomatch q0), (fun q0 => nomatch q0), (fun q0 => nomatch q0), (fun q0 => nomatch q0), (fun q0 => nomatch q0), (fun q0 => nomatch q0), (fun q0 => nomatch q0), (fun q0 => nomatch q0), (fun q0 => nomatch q0), (fun q0 => nomatch q0), (fun q0 => nomatch q0), (fun q0 => nomatch q0), (fun q0 => nomatch q0), (fun q0 => nomatch q0), (fun q0 => nomatch q0), (fun q0 => nomatch q0), (fun q0 => nomatch q0), (fun q0 => nomatch q0), (fun _ => P6.out.below ((Drawn.one w2 1).below _)), (fun _ => (S6.out.on ((Drawn.one w2 1).below _)).mono (by simp)), (fun q0 => nomatch q0), (fun q0 => nomatch q0), (fun q0 => nomatch q0), (fun q0 => nomatch q0)⟩
        · intro Fl9 ac W i9 o9 hJ ho hL hdep K9 hK
          obtain ⟨x47, x48, x49, x50, x51, x52, x53, x54, x55, x56, x57, x58, x59, x60, x61, x62, x63, x64, x65, x66, x67, x68, rfl, hB, hh0, hh1, hh2, hh3, hh4, hh5, hh6, hh7, hh8, hh9, hh10, hh11, hh12, hh13, hh14, hh15, hh16, hh17, hh18, hh19, hh20, hh21, hh22, hx0, hx1, hx2, hx3, hx4, hx5⟩ := hJ
          have hi9 : i9 < 23 := by simpa using (Array.getElem?_eq_some_iff.1 ho).1
          obtain rfl | rfl | rfl | rfl | rfl | rfl | rfl | rfl | rfl | rfl | rfl | rfl | rfl | rfl | rfl | rfl | rfl | rfl | rfl | rfl | rfl | rfl | rfl : i9 = 0 ∨ i9 = 1 ∨ i9 = 2 ∨ i9 = 3 ∨ i9 = 4 ∨ i9 = 5 ∨ i9 = 6 ∨ i9 = 7 ∨ i9 = 8 ∨ i9 = 9 ∨ i9 = 10 ∨ i9 = 11 ∨ i9 = 12 ∨ i9 = 13 ∨ i9 = 14 ∨ i9 = 15 ∨ i9 = 16 ∨ i9 = 17 ∨ i9 = 18 ∨ i9 = 19 ∨ i9 = 20 ∨ i9 = 21 ∨ i9 = 22 := by omega
          · -- operation 0
            cases ho
            go_simp
            exact hK _ _ ⟨_, _, _, _, _, _, _, _, _, _, _, _, _, _, _, _, _, _, _, _, _, _, rfl, hB, fun _ => rfl, hh1, hh2, hh3, hh4, hh5, hh6, hh7, hh8, hh9, hh10, hh11, hh12, hh13, hh14, hh15, hh16, hh17, hh18, hh19, hh20, hh21, hh22, hx0, hx1, hx2, hx3, hx4, hx5⟩
          · -- operation 1
            cases ho
            go_simp
            exact hK _ _ ⟨_, _, _, _, _, _, _, _, _, _, _, _, _, _, _, _, _, _, _, _, _, _, rfl, hB, hh0, fun _ => rfl, hh2, hh3, hh4, hh5, hh6, hh7, hh8, hh9, hh10, hh11, hh12, hh13, hh14, hh15, hh16, hh17, hh18, hh19, hh20, hh21, hh22, hx0, hx1, hx2, hx3, hx4, hx5⟩
          · -- operation 2
            cases ho
            go_simp
            exact hK _ _ ⟨_, _, _, _, _, _, _, _, _, _, _, _, _, _, _, _, _, _, _, _, _, _, rfl, hB, hh0, hh1, fun _ => rfl, hh3, hh4, hh5, hh6, hh7, hh8, hh9, hh10, hh11, hh12, hh13, hh14, hh15, hh16, hh17, hh18, hh19, hh20, hh21, hh22, hx0, hx1, hx2, hx3, hx4, hx5⟩
          · -- operation 3
            cases ho
            go_simp
            exact hK _ _ ⟨_, _, _, _, _, _, _, _, _, _, _, _, _, _, _, _, _, _, _, _, _, _, rfl, hB, hh0, hh1, hh2, fun _ => rfl, hh4, hh5, hh6, hh7, hh8, hh9, hh10, hh11, hh12, hh13, hh14, hh15, hh16, hh17, hh18, hh19, hh20, hh21, hh22, hx0, hx1, hx2, hx3, hx4, hx5⟩
          · -- operation 4
            cases ho
            obtain rfl := hh2 (hdep ⟨2, .data⟩ (by simp) rfl)
            obtain rfl := hh3 (hdep ⟨3, .data⟩ (by simp) rfl)
            go_simp
            exact hK _ _ ⟨_, _, _, _, _, _, _, _, _, _, _, _, _, _, _, _, _, _, _, _, _, _, rfl, hB, hh0, hh1, hh2, hh3, fun _ => rfl, hh5, hh6, hh7, hh8, hh9, hh10, hh11, hh12, hh13, hh14, hh15, hh16, hh17, hh18, hh19, hh20, hh21, hh22, hx0, hx1, hx2, hx3, hx4, hx5⟩
          · -- operation 5
            cases ho
            obtain rfl := hh4 (hdep ⟨4, .data⟩ (by simp) rfl)
            go_simp
            exact hK _ _ ⟨_, _, _, _, _, _, _, _, _, _, _, _, _, _, _, _, _, _, _, _, _, _, rfl, hB, hh0, hh1, hh2, hh3, hh4, fun _ => rfl, hh6, hh7, hh8, hh9, hh10, hh11, hh12, hh13, hh14, hh15, hh16, hh17, hh18, hh19, hh20, hh21, hh22, hx0, hx1, hx2, hx3, hx4, hx5⟩
          · -- operation 6
            cases ho
            obtain rfl := hh5 (hdep ⟨5, .data⟩ (by simp) rfl)
            have hT : Fl9 22 = false := Bool.eq_false_iff.2 (fun h => absurd (hx2 h) (by rw [hL]; simp))
            have C9 := ((hx0 hT).at hiq).1
            go_simp
            exact hK _ _ ⟨_, _, _, _, _, _, _, _, _, _, _, _, _, _, _, _, _, _, _, _, _, _, rfl, hB, hh0, hh1, hh2, hh3, hh4, hh5, fun _ => rfl, hh7, hh8, hh9, hh10, hh11, hh12, hh13, hh14, hh15, hh16, hh17, hh18, hh19, hh20, hh21, hh22, hx0, hx1, fun _ => rfl, hx3, hx4, hx5⟩
          · -- operation 7
            cases ho
            go_simp
            exact hK _ _ ⟨_, _, _, _, _, _, _, _, _, _, _, _, _, _, _, _, _, _, _, _, _, _, rfl, hB, hh0, hh1, hh2, hh3, hh4, hh5, hh6, fun _ => rfl, hh8, hh9, hh10, hh11, hh12, hh13, hh14, hh15, hh16, hh17, hh18, hh19, hh20, hh21, hh22, hx0, hx1, hx2, hx3, hx4, hx5⟩
          · -- operation 8
            cases ho
            have hT : Fl9 22 = false := Bool.eq_false_iff.2 (fun h => absurd (hx4 h) (by rw [hL]; simp))
            have hbn8 := bN (Fl9 8)
            have hbn17 := bN (Fl9 17)
            obtain rfl := hh7 (hdep ⟨7, .data⟩ (by simp) rfl)
            obtain ⟨q9, q90, q91, H9⟩ := (hx1 trivial).at H.out
            go_simp
            refine (pick_at H9 (by omega) 3 (by omega)).mono ?_
            rintro e w9 ⟨z9, hb90, hb91, rfl, hs9⟩
            exact hK _ _ ⟨_, _, _, _, _, _, _, _, _, _, _, _, _, _, _, _, _, _, _, _, _, _, rfl, hB.trans ((UpW.grown hs9.grown).mono hB.size), hh0, hh1, hh2, hh3, hh4, hh5, hh6, hh7, fun _ => ⟨_, rfl, hb90, by omega⟩, hh9, hh10, hh11, hh12, hh13, hh14, hh15, hh16, hh17, hh18, hh19, hh20, hh21, (fun q0 => (fun ⟨y1, y2, h⟩ => ⟨y1, y2, h.kept hs9.grown (by omega) hgb hgb3⟩) (hh22 q0)), fun q0 => (hx0 q0).kept hs9.grown (by omega) hgb hgb3, fun _ => ((hx1 trivial).then hs9 q90 q91).mono (by simp [hL] <;> omega), hx2, hx3, fun _ => rfl, hx5⟩
          · -- operation 9
            cases ho
            obtain rfl := hh6 (hdep ⟨6, .data⟩ (by simp) rfl)
            obtain ⟨z55, rfl, -⟩ := hh8 (hdep ⟨8, .data⟩ (by simp) rfl)
            go_simp
            exact hK _ _ ⟨_, _, _, _, _, _, _, _, _, _, _, _, _, _, _, _, _, _, _, _, _, _, rfl, hB, hh0, hh1, hh2, hh3, hh4, hh5, hh6, hh7, hh8, fun _ => ⟨_, rfl⟩, hh10, hh11, hh12, hh13, hh14, hh15, hh16, hh17, hh18, hh19, hh20, hh21, hh22, hx0, hx1, hx2, hx3, hx4, hx5⟩
          · -- operation 10
            cases ho
            obtain ⟨z56, rfl⟩ := hh9 (hdep ⟨9, .data⟩ (by simp) rfl)
            go_simp
            exact hK _ _ ⟨_, _, _, _, _, _, _, _, _, _, _, _, _, _, _, _, _, _, _, _, _, _, rfl, hB, hh0, hh1, hh2, hh3, hh4, hh5, hh6, hh7, hh8, hh9, fun _ => ⟨_, rfl⟩, hh11, hh12, hh13, hh14, hh15, hh16, hh17, hh18, hh19, hh20, hh21, hh22, hx0, hx1, hx2, hx3, hx4, hx5⟩
          · -- operation 11
            cases ho
            go_simp
            exact hK _ _ ⟨_, _, _, _, _, _, _, _, _, _, _, _, _, _, _, _, _, _, _, _, _, _, rfl, hB, hh0, hh1, hh2, hh3, hh4, hh5, hh6, hh7, hh8, hh9, hh10, fun _ => rfl, hh12, hh13, hh14, hh15, hh16, hh17, hh18, hh19, hh20, hh21, hh22, hx0, hx1, hx2, hx3, hx4, hx5⟩
          · -- operation 12
            cases ho
            go_simp
            exact hK _ _ ⟨_, _, _, _, _, _, _, _, _, _, _, _, _, _, _, _, _, _, _, _, _, _, rfl, hB, hh0, hh1, hh2, hh3, hh4, hh5, hh6, hh7, hh8, hh9, hh10, hh11, fun _ => rfl, hh13, hh14, hh15, hh16, hh17, hh18, hh19, hh20, hh21, hh22, hx0, hx1, hx2, hx3, hx4, hx5⟩
          · -- operation 13
            cases ho
            obtain rfl := hh11 (hdep ⟨11, .data⟩ (by simp) rfl)
            obtain rfl := hh12 (hdep ⟨12, .data⟩ (by simp) rfl)
            go_simp
            exact hK _ _ ⟨_, _, _, _, _, _, _, _, _, _, _, _, _, _, _, _, _, _, _, _, _, _, rfl, hB, hh0, hh1, hh2, hh3, hh4, hh5, hh6, hh7, hh8, hh9, hh10, hh11, hh12, fun _ => rfl, hh14, hh15, hh16, hh17, hh18, hh19, hh20, hh21, hh22, hx0, hx1, hx2, hx3, hx4, hx5⟩
          · -- operation 14
            cases ho
            obtain rfl := hh13 (hdep ⟨13, .data⟩ (by simp) rfl)
            go_simp
            exact hK _ _ ⟨_, _, _, _, _, _, _, _, _, _, _, _, _, _, _, _, _, _, _, _, _, _, rfl, hB, hh0, hh1, hh2, hh3, hh4, hh5, hh6, hh7, hh8, hh9, hh10, hh11, hh12, hh13, fun _ => rfl, hh15, hh16, hh17, hh18, hh19, hh20, hh21, hh22, hx0, hx1, hx2, hx3, hx4, hx5⟩
          · -- operation 15
            cases ho
            obtain rfl := hh14 (hdep ⟨14, .data⟩ (by simp) rfl)
            have hT : Fl9 22 = false := Bool.eq_false_iff.2 (fun h => absurd (hx3 h) (by rw [hL]; simp))
            have C9 := ((hx0 hT).at hiq).2
            go_simp
            exact hK _ _ ⟨_, _, _, _, _, _, _, _, _, _, _, _, _, _, _, _, _, _, _, _, _, _, rfl, hB, hh0, hh1, hh2, hh3, hh4, hh5, hh6, hh7, hh8, hh9, hh10, hh11, hh12, hh13, hh14, fun _ => rfl, hh16, hh17, hh18, hh19, hh20, hh21, hh22, hx0, hx1, hx2, fun _ => rfl, hx4, hx5⟩
          · -- operation 16
            cases ho
            go_simp
            exact hK _ _ ⟨_, _, _, _, _, _, _, _, _, _, _, _, _, _, _, _, _, _, _, _, _, _, rfl, hB, hh0, hh1, hh2, hh3, hh4, hh5, hh6, hh7, hh8, hh9, hh10, hh11, hh12, hh13, hh14, hh15, fun _ => rfl, hh17, hh18, hh19, hh20, hh21, hh22, hx0, hx1, hx2, hx3, hx4, hx5⟩
          · -- operation 17
            cases ho
            have hT : Fl9 22 = false := Bool.eq_false_iff.2 (fun h => absurd (hx5 h) (by rw [hL]; simp))
            have hbn8 := bN (Fl9 8)
            have hbn17 := bN (Fl9 17)
            obtain rfl := hh16 (hdep ⟨16, .data⟩ (by simp) rfl)
            obtain ⟨q9, q90, q91, H9⟩ := (hx1 trivial).at H.out
            go_simp
            refine (pick_at H9 (by omega) 3 (by omega)).mono ?_
            rintro e w9 ⟨z9, hb90, hb91, rfl, hs9⟩
            exact hK _ _ ⟨_, _, _, _, _, _, _, _, _, _, _, _, _, _, _, _, _, _, _, _, _, _, rfl, hB.trans ((UpW.grown hs9.grown).mono hB.size), hh0, hh1, hh2, hh3, hh4, hh5, hh6, hh7, hh8, hh9, hh10, hh11, hh12, hh13, hh14, hh15, hh16, fun _ => ⟨_, rfl, hb90, by omega⟩, hh18, hh19, hh20, hh21, (fun q0 => (fun ⟨y1, y2, h⟩ => ⟨y1, y2, h.kept hs9.grown (by omega) hgb hgb3⟩) (hh22 q0)), fun q0 => (hx0 q0).kept hs9.grown (by omega) hgb hgb3, fun _ => ((hx1 trivial).then hs9 q90 q91).mono (by simp [hL] <;> omega), hx2, hx3, hx4, fun _ => rfl⟩
          · -- operation 18
            cases ho
            obtain rfl := hh15 (hdep ⟨15, .data⟩ (by simp) rfl)
            obtain ⟨z64, rfl, -⟩ := hh17 (hdep ⟨17, .data⟩ (by simp) rfl)
            go_simp
            exact hK _ _ ⟨_, _, _, _, _, _, _, _, _, _, _, _, _, _, _, _, _, _, _, _, _, _, rfl, hB, hh0, hh1, hh2, hh3, hh4, hh5, hh6, hh7, hh8, hh9, hh10, hh11, hh12, hh13, hh14, hh15, hh16, hh17, fun _ => ⟨_, rfl⟩, hh19, hh20, hh21, hh22, hx0, hx1, hx2, hx3, hx4, hx5⟩
          · -- operation 19
            cases ho
            obtain ⟨z65, rfl⟩ := hh18 (hdep ⟨18, .data⟩ (by simp) rfl)
            go_simp
            exact hK _ _ ⟨_, _, _, _, _, _, _, _, _, _, _, _, _, _, _, _, _, _, _, _, _, _, rfl, hB, hh0, hh1, hh2, hh3, hh4, hh5, hh6, hh7, hh8, hh9, hh10, hh11, hh12, hh13, hh14, hh15, hh16, hh17, hh18, fun _ => ⟨_, rfl⟩, hh20, hh21, hh22, hx0, hx1, hx2, hx3, hx4, hx5⟩
          · -- operation 20
            cases ho
            obtain ⟨z57, rfl⟩ := hh10 (hdep ⟨10, .data⟩ (by simp) rfl)
            obtain ⟨z66, rfl⟩ := hh19 (hdep ⟨19, .data⟩ (by simp) rfl)
            go_simp
            exact hK _ _ ⟨_, _, _, _, _, _, _, _, _, _, _, _, _, _, _, _, _, _, _, _, _, _, rfl, hB, hh0, hh1, hh2, hh3, hh4, hh5, hh6, hh7, hh8, hh9, hh10, hh11, hh12, hh13, hh14, hh15, hh16, hh17, hh18, hh19, fun _ => ⟨_, _, rfl⟩, hh21, hh22, hx0, hx1, hx2, hx3, hx4, hx5⟩
          · -- operation 21
            cases ho
            obtain rfl := hh0 (hdep ⟨0, .data⟩ (by simp) rfl)
            obtain rfl := hh1 (hdep ⟨1, .data⟩ (by simp) rfl)
            go_simp
            exact hK _ _ ⟨_, _, _, _, _, _, _, _, _, _, _, _, _, _, _, _, _, _, _, _, _, _, rfl, hB, hh0, hh1, hh2, hh3, hh4, hh5, hh6, hh7, hh8, hh9, hh10, hh11, hh12, hh13, hh14, hh15, hh16, hh17, hh18, hh19, hh20, fun _ => rfl, hh22, hx0, hx1, hx2, hx3, hx4, hx5⟩
          · -- operation 22
            cases ho
            have hp6 := hdep ⟨6, .phase⟩ (by simp) rfl
            have hp15 := hdep ⟨15, .phase⟩ (by simp) rfl
            have hp8 := hdep ⟨8, .phase⟩ (by simp) rfl
            have hp17 := hdep ⟨17, .phase⟩ (by simp) rfl
            obtain ⟨y1, y2, rfl⟩ := hh20 (hdep ⟨20, .data⟩ (by simp) rfl)
            obtain rfl := hh21 (hdep ⟨21, .data⟩ (by simp) rfl)
            have hst := (hx0 hL).set hiq y1 y2
            have ce := (hx0 hL).at hiq
            obtain ⟨ce0, ce1⟩ := ce
            have cf0 := (hx0 hL).r.frozenAt (i * 2)
            have cf1 := (hx0 hL).r.frozenAt (i * 2 + 1)
            go_simp
            exact hK _ _ ⟨_, _, _, _, _, _, _, _, _, _, _, _, _, _, _, _, _, _, _, _, _, _, rfl, hB.trans ((UpW.grown hst.2).mono hB.size), hh0, hh1, hh2, hh3, hh4, hh5, (fun _ => rfl), hh7, hh8, hh9, hh10, hh11, hh12, hh13, hh14, (fun _ => rfl), hh16, hh17, hh18, hh19, hh20, hh21, fun _ => ⟨y1, y2, hst.1⟩, (fun q0 => nomatch q0), fun _ => (hx1 trivial).own hst.2 hg1 (by omega), fun _ => hp6, fun _ => hp15, fun _ => hp8, fun _ => hp17⟩
        intro Fl9 ac W hJ hall
        obtain ⟨x47, x48, x49, x50, x51, x52, x53, x54, x55, x56, x57, x58, x59, x60, x61, x62, x63, x64, x65, x66, x67, x68, rfl, hB, hh0, hh1, hh2, hh3, hh4, hh5, hh6, hh7, hh8, hh9, hh10, hh11, hh12, hh13, hh14, hh15, hh16, hh17, hh18, hh19, hh20, hh21, hh22, -, hcs9, -, -, -, -⟩ := hJ
        obtain rfl := hh0 (hall 0 (by decide))
        obtain rfl := hh1 (hall 1 (by decide))
        obtain rfl := hh2 (hall 2 (by decide))
        obtain rfl := hh3 (hall 3 (by decide))
        obtain rfl := hh4 (hall 4 (by decide))
        obtain rfl := hh5 (hall 5 (by decide))
        obtain rfl := hh6 (hall 6 (by decide))
        obtain rfl := hh7 (hall 7 (by decide))
        obtain rfl := hh11 (hall 11 (by decide))
        obtain rfl := hh12 (hall 12 (by decide))
        obtain rfl := hh13 (hall 13 (by decide))
        obtain rfl := hh14 (hall 14 (by decide))
        obtain rfl := hh15 (hall 15 (by decide))
        obtain rfl := hh16 (hall 16 (by decide))
        obtain rfl := hh21 (hall 21 (by decide))
        obtain - := hh8 (hall 8 (by decide))
        obtain - := hh9 (hall 9 (by decide))
        obtain - := hh10 (hall 10 (by decide))
        obtain - := hh17 (hall 17 (by decide))
        obtain - := hh18 (hall 18 (by decide))
        obtain - := hh19 (hall 19 (by decide))
        obtain - := hh20 (hall 20 (by decide))
        obtain ⟨y1, y2, P7⟩ := hh22 (hall 22 (by decide))
        clear hall
        have S12 := Lib.hid (hcs9 trivial)
        have P12 := Lib.hid P7
        have hbn := bN (Fl9 8)
        have hbn2 := bN (Fl9 17)
        obtain ⟨L, hLx⟩ : ∃ x, x = L.set i ⟨y1, y2⟩ := ⟨_, rfl⟩
        rw [← hLx] at P12
        clear hcs9 hB P6 S6 P7 hLx
        -- one more, or none
        obtain ⟨r5, r50, r51, H5⟩ := S12.out.at H.out
        go_wp2_with fail
        refine (one_at H5 (by omega) 24 (by omega)).mono ?_
        rintro e w7 ⟨y, rfl, hs⟩
        have S8 := Lib.hid (S12.out.then hs r50 r51)
        have P8 := Lib.hid (P12.out.kept hs.grown hgl trivial trivial)
        clear hs H5 r50 r51 S12 P12
        cases y with
        | true =>
          have HPA := Lib.hid (P8.out.below (below1x w7 (.cells #[.int .i64 0, .int .i64 0] 42)))
          have HSA := Lib.hid (S8.out.alloc (.cells #[.int .i64 0, .int .i64 0] 42))
          have HSZ := Lib.hid S8.out.grown.size
          clear P8 S8
          go_wp2_with (at_builtin; go_loud (refine wpList_append_own _ rfl (.tmp 71) (.tmp 73) 29 rfl w.heap.size 42 i0 (.agg #[.int .i64 0, .int .i64 0]) 2 16 Try.underlying29 hi hz0 hz1 hz2 rfl (by decide) (.slice (some ⟨g1, 0, none⟩) q c1) q _ rfl HPA.out.r ⟨w7.heap.size, 0, none⟩ 1 1 [.int .i64 0, .int .i64 0] rfl rfl (cell_2S _ _ _ _) (by simp [Value.oneCell']) (by unfold maxLen; omega) (by omega) (by have := HSZ.out; simp; omega) ?_; intro v1 w6 hown1 hgrow1 hnil1; obtain ⟨g5, c5, rfl, hg5⟩ := own_some hown1 (fun e => absurd (hnil1.1 e).2 (by decide)); have S9 := Lib.hid (HSA.out.row hgrow1 HPA.out.r hgl); have P9 : Hid (SpS w.heap.size w6 g5 (q + 1) c5 (L ++ [⟨0, 0⟩])) := Lib.hid ⟨by rw [flatSpot_append]; exact hown1⟩; clear hnil1 hgrow1 hown1 HPA HSA HSZ))
          go_wp2_with fail
          refine bodyPost_ret (results_tmp rfl _ _ _) rfl ?_
          exact ⟨g5, q + 1, c5, _, rfl, by omega, P9.out, S9.out.mono (by omega)⟩
        | false =>
          go_wp2_with fail
          refine bodyPost_ret (results_tmp rfl _ _ _) rfl ?_
          exact ⟨g1, q, c1, _, rfl, by omega, P8.out, S8.out.mono (by omega)⟩
      | false =>
        -- one more, or none
        obtain ⟨r5, r50, r51, H5⟩ := S11.out.at H.out
        go_wp2_with fail
        refine (one_at H5 (by omega) 24 (by omega)).mono ?_
        rintro e w7 ⟨y, rfl, hs⟩
        have S8 := Lib.hid (S11.out.then hs r50 r51)
        have P8 := Lib.hid (P11.out.kept hs.grown hgl trivial trivial)
        clear hs H5 r50 r51 S11 P11
        cases y with
        | true =>
          have HPA := Lib.hid (P8.out.below (below1x w7 (.cells #[.int .i64 0, .int .i64 0] 42)))
          have HSA := Lib.hid (S8.out.alloc (.cells #[.int .i64 0, .int .i64 0] 42))
          have HSZ := Lib.hid S8.out.grown.size
          clear P8 S8
          go_wp2_with (at_builtin; go_loud (refine wpList_append_own _ rfl (.tmp 71) (.tmp 73) 29 rfl w.heap.size 42 i0 (.agg #[.int .i64 0, .int .i64 0]) 2 16 Try.underlying29 hi hz0 hz1 hz2 rfl (by decide) (.slice (some ⟨g1, 0, none⟩) q c1) q _ rfl HPA.out.r ⟨w7.heap.size, 0, none⟩ 1 1 [.int .i64 0, .int .i64 0] rfl rfl (cell_2S _ _ _ _) (by simp [Value.oneCell']) (by unfold maxLen; omega) (by omega) (by have := HSZ.out; simp; omega) ?_; intro v1 w6 hown1 hgrow1 hnil1; obtain ⟨g5, c5, rfl, hg5⟩ := own_some hown1 (fun e => absurd (hnil1.1 e).2 (by decide)); have S9 := Lib.hid (HSA.out.row hgrow1 HPA.out.r hgl); have P9 : Hid (SpS w.heap.size w6 g5 (q + 1) c5 (L ++ [⟨0, 0⟩])) := Lib.hid ⟨by rw [flatSpot_append]; exact hown1⟩; clear hnil1 hgrow1 hown1 HPA HSA HSZ))
          go_wp2_with fail
          refine bodyPost_ret (results_tmp rfl _ _ _) rfl ?_
          exact ⟨g5, q + 1, c5, _, rfl, by omega, P9.out, S9.out.mono (by omega)⟩
        | false =>
          go_wp2_with fail
          refine bodyPost_ret (results_tmp rfl _ _ _) rfl ?_
          exact ⟨g1, q, c1, _, rfl, by omega, P8.out, S8.out.mono (by omega)⟩
    · have hq0i : ¬ (0 : Int) < (q : Int) := by omega
      refine Lib.hid ?_
      -- one more, or none
      obtain ⟨r5, r50, r51, H5⟩ := S10.out.at H.out
      go_wp2_with fail
      refine (one_at H5 (by omega) 24 (by omega)).mono ?_
      rintro e w7 ⟨y, rfl, hs⟩
      have S8 := Lib.hid (S10.out.then hs r50 r51)
      have P8 := Lib.hid (P10.out.kept hs.grown hgl trivial trivial)
      clear hs H5 r50 r51 S10 P10
      cases y with
      | true =>
        have HPA := Lib.hid (P8.out.below (below1x w7 (.cells #[.int .i64 0, .int .i64 0] 42)))
        have HSA := Lib.hid (S8.out.alloc (.cells #[.int .i64 0, .int .i64 0] 42))
        have HSZ := Lib.hid S8.out.grown.size
        clear P8 S8
        go_wp2_with (at_builtin; go_loud (refine wpList_append_own _ rfl (.tmp 71) (.tmp 73) 29 rfl w.heap.size 42 i0 (.agg #[.int .i64 0, .int .i64 0]) 2 16 Try.underlying29 hi hz0 hz1 hz2 rfl (by decide) (.slice (some ⟨g1, 0, none⟩) q c1) q _ rfl HPA.out.r ⟨w7.heap.size, 0, none⟩ 1 1 [.int .i64 0, .int .i64 0] rfl rfl (cell_2S _ _ _ _) (by simp [Value.oneCell']) (by unfold maxLen; omega) (by omega) (by have := HSZ.out; simp; omega) ?_; intro v1 w6 hown1 hgrow1 hnil1; obtain ⟨g5, c5, rfl, hg5⟩ := own_some hown1 (fun e => absurd (hnil1.1 e).2 (by decide)); have S9 := Lib.hid (HSA.out.row hgrow1 HPA.out.r hgl); have P9 : Hid (SpS w.heap.size w6 g5 (q + 1) c5 (L ++ [⟨0, 0⟩])) := Lib.hid ⟨by rw [flatSpot_append]; exact hown1⟩; clear hnil1 hgrow1 hown1 HPA HSA HSZ))
        go_wp2_with fail
        refine bodyPost_ret (results_tmp rfl _ _ _) rfl ?_
        exact ⟨g5, q + 1, c5, _, rfl, by omega, P9.out, S9.out.mono (by omega)⟩
      | false =>
        go_wp2_with fail
        refine bodyPost_ret (results_tmp rfl _ _ _) rfl ?_
        exact ⟨g1, q, c1, _, rfl, by omega, P8.out, S8.out.mono (by omega)⟩
  | false =>
    clear HI0
    have S2' := Lib.hid (S2.out.mono (d' := 20 + 4 * ((0 : Nat) : Int)) (by omega))
    clear S2
    go_wp2_with fail
    generalize (Value.tuple #[.slice (some ⟨g0, 0, none⟩) q c0, .bool false] : Value) = u11q
    generalize hu15 : (Value.slice (some ⟨g0, 0, none⟩) q c0 : Value) = u15q
    go_loopw [7, 9] (fun v i wr => ∃ (k q g0 c0 : Nat) (L : List TSpot), k ≤ n1 ∧ i = .int .i64 k ∧ v = .slice (some ⟨g0, 0, none⟩) q c0 ∧ q ≤ 4 + k ∧ Hid (SpS w.heap.size wr g0 q c0 L) ∧ Hid (CurStep w wr g A n c p (20 + 4 * (k : Int)))) (fun v i _ => n1 - (intOf i).toNat)
    case atStart => exact ⟨0, q, g0, c0, L, by omega, rfl, hu15.symm, by omega, P2, S2'⟩
    case round =>
      clear P2 S2' hq4 hu15
      obtain ⟨k, q, g0, c0, L, hk, rfl, rfl, hq, P2, S2⟩ := hrel
      by_cases hlt : (k : Int) < (n1 : Int)
      · obtain ⟨r5, r50, r51, H5⟩ := S2.out.at H.out
        go_wp2_with fail
        refine (pick_at H5 (by omega) 6 (by omega)).mono ?_
        rintro e w3 ⟨z1, z10, z11, rfl, hs⟩
        have S3 := Lib.hid (S2.out.then hs r50 r51)
        have P3 := Lib.hid (P2.out.kept hs.grown hgl trivial trivial)
        clear hs H5 r50 r51 S2 P2 z10 z11
        obtain ⟨r5, r50, r51, H5⟩ := S3.out.at H.out
        go_wp2_with fail
        refine (pick_at H5 (by omega) 3 (by omega)).mono ?_
        rintro e w4 ⟨z2, z20, z21, rfl, hs⟩
        have S4 := Lib.hid (S3.out.then hs r50 r51)
        have P4 := Lib.hid (P3.out.kept hs.grown hgl trivial trivial)
        clear hs H5 r50 r51 S3 P3 z20 z21
        have HPA := Lib.hid (P4.out.below (below1x w4 (.cells #[.int .i64 z1, .int .i64 z2] 42)))
        have HSA := Lib.hid (S4.out.alloc (.cells #[.int .i64 z1, .int .i64 z2] 42))
        have HSZ := Lib.hid S4.out.grown.size
        clear P4 S4
        go_wp2_with (at_builtin; go_loud (refine wpList_append_own _ rfl (.tmp 25) (.tmp 31) 29 rfl w.heap.size 42 i0 (.agg #[.int .i64 0, .int .i64 0]) 2 16 Try.underlying29 hi hz0 hz1 hz2 rfl (by decide) (.slice (some ⟨g0, 0, none⟩) q c0) q _ rfl HPA.out.r ⟨w4.heap.size, 0, none⟩ 1 1 [.int .i64 z1, .int .i64 z2] rfl rfl (cell_2S _ _ _ _) (by simp [Value.oneCell']) (by unfold maxLen; omega) (by omega) (by have := HSZ.out; simp; omega) ?_; intro v1 w6 hown1 hgrow1 hnil1; obtain ⟨g5, c5, rfl, hg5⟩ := own_some hown1 (fun e => absurd (hnil1.1 e).2 (by decide)); have S9 := Lib.hid (HSA.out.row hgrow1 HPA.out.r hgl); have P9 : Hid (SpS w.heap.size w6 g5 (q + 1) c5 (L ++ [⟨z1, z2⟩])) := Lib.hid ⟨by rw [flatSpot_append]; exact hown1⟩; clear hnil1 hgrow1 hown1 HPA HSA HSZ))
        go_roundw
        case rel => exact ⟨k + 1, q + 1, g5, c5, _, by omega, by go_num, rfl, by omega, P9, Lib.hid (S9.out.mono (by push_cast; omega))⟩
        case measure => simp [intOf]; omega
      · have S3 := Lib.hid (S2.out.mono (d' := 60) (by omega))
        have hq4 : q ≤ 12 := by omega
        clear S2
        obtain ⟨wx, hwx⟩ : ∃ x, x = wr := ⟨_, rfl⟩
        subst hwx
        -- the copy, then one of them drawn anew
        obtain ⟨r0, hr0⟩ : ∃ x, wx.alloc (.cells #[] 42) = x := ⟨_, rfl⟩
        have HE := Lib.hid (World.ownsRow_made (size := 2) (e := 42) (base := w.heap.size) wx #[] 0 S3.out.grown.size (by unfold maxLen; omega) rfl)
        have HPA := Lib.hid (P2.out.below (below1x wx (.cells #[] 42)))
        have HSA := Lib.hid (S3.out.alloc (.cells #[] 42))
        have HSZ := Lib.hid S3.out.grown.size
        have hfl : (flatSpot L).length = q * 2 := by rw [flatSpot_len, P2.out.len]; omega
        clear P2 S3 hr0 r0
        go_wp2_with (at_builtin; go_loud (refine wpList_append_own _ rfl (.tmp 33) (.tmp 34) 29 rfl w.heap.size 42 i0 (.agg #[.int .i64 0, .int .i64 0]) 2 16 Try.underlying29 hi hz0 hz1 hz2 rfl (by decide) (.slice (some ⟨wx.heap.size, 0, none⟩) 0 0) 0 [] rfl HE.out ⟨g0, 0, none⟩ q c0 (flatSpot L) rfl hfl (fun j u hu => by rw [addO, Nat.zero_add]; have := HPA.out.r.cellAt j (by have := (List.getElem?_eq_some_iff.1 hu).1; omega); rw [this]; exact hu) (spot_one L) (by unfold maxLen; omega) (by omega) (by have := HSZ.out; simp; omega) ?_; intro v1 w6 hown1 hgrow1 hnil1; obtain ⟨g5, c5, rfl, hg5⟩ := own_some hown1 (fun e => nomatch (hnil1.1 e).1); have S9 := Lib.hid (HSA.out.row hgrow1 HE.out hgl); have P9 : Hid (SpS w.heap.size w6 g5 q c5 L) := Lib.hid ⟨by simpa using hown1⟩; clear hnil1 hgrow1 hown1 HPA HSA HSZ HE hfl; refine Hid.out ?_))
        obtain ⟨g1, hg1x⟩ : ∃ x, x = g5 := ⟨_, rfl⟩
        subst hg1x
        obtain ⟨c1, hc1x⟩ : ∃ x, x = c5 := ⟨_, rfl⟩
        subst hc1x
        have S10 := Lib.hid (S9.out.mono (d' := 62) (by omega))
        have P10 := P9
        clear S9 P9
        by_cases hq0 : 0 < q
        · have hq0i : (0 : Int) < (q : Int) := by omega
          refine Lib.hid ?_
          obtain ⟨r5, r50, r51, H5⟩ := S10.out.at H.out
          go_wp2_with fail
          refine (one_at H5 (by omega) 4 (by omega)).mono ?_
          rintro e w7 ⟨y, rfl, hs⟩
          have S11 := Lib.hid (S10.out.then hs r50 r51)
          have P11 := Lib.hid (P10.out.kept hs.grown hgl trivial trivial)
          clear hs H5 r50 r51 S10 P10
          cases y with
          | true =>
            obtain ⟨r5, r50, r51, H5⟩ := S11.out.at H.out
            go_wp2_with fail
            refine (pick_at H5 (by omega) (q : Int) (by omega)).mono ?_
            rintro e w2 ⟨b9, b90, b91, rfl, hs⟩
            obtain ⟨i, rfl⟩ : ∃ i : Nat, b9 = (i : Int) := ⟨b9.toNat, by omega⟩
            have hiq : i < q := by omega
            have hi0 : (0 : Int) ≤ (i : Int) := by omega
            have hi1 : (i : Int) < (q : Int) := by omega
            obtain ⟨D9, hD9⟩ : ∃ d : Int, d = 66 := ⟨_, rfl⟩
            have S6 : Hid (CurStep w w2 g A n c p D9) := Lib.hid ((S11.out.then hs r50 r51).mono (by omega))
            have P6 := Lib.hid (P11.out.kept hs.grown hgl trivial trivial)
            have hg1 := (P6.out.r.lt g1 rfl).1
            have hgb := trivial
            have hgb3 := trivial
            clear hs H5 r50 r51 S11 P11 b90 b91
            go_wp2_with fail
            refine region_inv (by kernel_rfl) (by kernel_rfl) (fun Fl9 ac W => ∃ (x47 x48 x49 x50 x51 x52 x53 x54 x55 x56 x57 x58 x59 x60 x61 x62 x63 x64 x65 x66 x67 x68 : Value), ac = { tmps := #[Value.pointer (some ⟨g, 0, none⟩), Value.agg #[Value.int IntKind.i64 cl, Value.int IntKind.i64 cb], Value.slice A1 n1 c9, undef, Value.pointer (some ⟨w.heap.size, 0, none⟩), undef, Value.slice none 0 0, Value.slice (some ⟨g1, 0, none⟩) q c1, Value.bool false, Value.int IntKind.i64 (k : Int), Value.int IntKind.i64 (i : Int), u11q, Value.agg #[Value.int IntKind.i64 cl, Value.int IntKind.i64 cb], Value.slice A1 n1 c9, u11q, u15q, Value.bool false, Value.bool false, Value.bool true, Value.int IntKind.i64 (k : Int), Value.slice A1 n1 c9, Value.int IntKind.i64 (n1 : Int), Value.bool false, u23, u24, u25, u26, u27, u28, u29, u30, u31, u32, Value.slice (some ⟨wx.heap.size, 0, none⟩) 0 0, Value.slice (some ⟨g0, 0, none⟩) q c0, Value.slice (some ⟨g1, 0, none⟩) q c1, Value.slice (some ⟨g1, 0, none⟩) q c1, Value.int IntKind.i64 (q : Int), Value.bool true, Value.bool true, Value.pointer (some ⟨g, 0, none⟩), Value.bool true, Value.bool true, Value.pointer (some ⟨g, 0, none⟩), Value.slice (some ⟨g1, 0, none⟩) q c1, Value.int IntKind.i64 (q : Int), Value.int IntKind.i64 (i : Int), x47, x48, x49, x50, x51, x52, x53, x54, x55, x56, x57, x58, x59, x60, x61, x62, x63, x64, x65, x66, x67, x68, undef, undef, undef, undef, undef, undef, undef], defers := [] } ∧ UpW w2.heap.size w2 W ∧
                  (Fl9 0 = true → x47 = .slice (some ⟨g1, 0, none⟩) q c1) ∧
                  (Fl9 1 = true → x48 = .int .i64 (i : Int)) ∧
                  (Fl9 2 = true → x49 = .slice (some ⟨g1, 0, none⟩) q c1) ∧
                  (Fl9 3 = true → x50 = .int .i64 (i : Int)) ∧
                  (Fl9 4 = true → x51 = .pointer (some ⟨g1, i * 2, none⟩)) ∧
                  (Fl9 5 = true → x52 = .pointer (some ⟨g1, i * 2, none⟩)) ∧
                  (Fl9 6 = true → x53 = .int .i64 (L.getD i noSpot).x0) ∧
                  (Fl9 7 = true → x54 = .pointer (some ⟨g, 0, none⟩)) ∧
                  (Fl9 8 = true → ∃ z9 : Int, x55 = .int .i64 z9 ∧ 0 ≤ z9 ∧ z9 ≤ 2) ∧
                  (Fl9 9 = true → ∃ z9 : Int, x56 = .int .i64 z9) ∧
                  (Fl9 10 = true → ∃ z9 : Int, x57 = .int .i64 z9) ∧
                  (Fl9 11 = true → x58 = .slice (some ⟨g1, 0, none⟩) q c1) ∧
                  (Fl9 12 = true → x59 = .int .i64 (i : Int)) ∧
                  (Fl9 13 = true → x60 = .pointer (some ⟨g1, i * 2, none⟩)) ∧
                  (Fl9 14 = true → x61 = .pointer (some ⟨g1, i * 2 + 1, none⟩)) ∧
                  (Fl9 15 = true → x62 = .int .i64 (L.getD i noSpot).x1) ∧
                  (Fl9 16 = true → x63 = .pointer (some ⟨g, 0, none⟩)) ∧
                  (Fl9 17 = true → ∃ z9 : Int, x64 = .int .i64 z9 ∧ 0 ≤ z9 ∧ z9 ≤ 2) ∧
                  (Fl9 18 = true → ∃ z9 : Int, x65 = .int .i64 z9) ∧
                  (Fl9 19 = true → ∃ z9 : Int, x66 = .int .i64 z9) ∧
                  (Fl9 20 = true → ∃ y1 y2 : Int, x67 = .agg #[.int .i64 y1, .int .i64 y2]) ∧
                  (Fl9 21 = true → x68 = .pointer (some ⟨g1, i * 2, none⟩)) ∧
                  (Fl9 22 = true → ∃ y1 y2 : Int, SpS w.heap.size W g1 q c1 (L.set i ⟨y1, y2⟩)) ∧
                  (Fl9 22 = false → SpS w.heap.size W g1 q c1 L) ∧
                  (True → CurStep w W g A n c p (D9 + 2 * (((Fl9 8).toNat : Int) + ((Fl9 17).toNat : Int)))) ∧
                  (Fl9 22 = true → Fl9 6 = true) ∧
                  (Fl9 22 = true → Fl9 15 = true) ∧
                  (Fl9 22 = true → Fl9 8 = true) ∧
                  (Fl9 22 = true → Fl9 17 = true)) ?_ ?_ ?_
            · exact ⟨_, _, _, _, _, _, _, _, _, _, _, _, _, _, _, _, _, _, _, _, _, _, rfl, UpW.of ((Drawn.one w2 1).below _), (fun q0 => nomatch q0), (fun q0 => nomatch q0), (fun q0 => nomatch q0), (fun q0 => nomatch q0), (fun q0 => nomatch q0), (fun q0 => nomatch q0), (fun q0 => nomatch q0), (fun q0 => nomatch q0), (fun q0 => nomatch q0), (fun q0 => nomatch q0), (fun q0 => nomatch q0), (fun q0 => nomatch q0), (fun q0 => nomatch q0), (fun q0 => nomatch q0), (fun q0 => nomatch q0), (fun q0 => nomatch q0), (fun q0 => nomatch q0), (fun q0 => nomatch q0), (fun q0 => nomatch q0), (fun q0 => nomatch q0), (fun q0 => nomatch q0), (fun q0 => nomatch q0), (fun q0 => nomatch q0), (fun _ => P6.out.below ((Drawn.one w2 1).below _)), (fun _ => (S6.out.on ((Drawn.one w2 1).below _)).mono (by simp)), (fun q0 => nomatch q0), (fun q0 => nomatch q0), (fun q0 => nomatch q0), (fun q0 => nomatch q0)⟩
            · intro Fl9 ac W i9 o9 hJ ho hL hdep K9 hK
              obtain ⟨x47, x48, x49, x50, x51, x52, x53, x54, x55, x56, x57, x58, x59, x60, x61, x62, x63, x64, x65, x66, x67, x68, rfl, hB, hh0, hh1, hh2, hh3, hh4, hh5, hh6, hh7, hh8, hh9, hh10, hh11, hh12, hh13, hh14, hh15, hh16, hh17, hh18, hh19, hh20, hh21, hh22, hx0, hx1, hx2, hx3, hx4, hx5⟩ := hJ
              have hi9 : i9 < 23 := by simpa using (Array.getElem?_eq_some_iff.1 ho).1
              obtain rfl | rfl | rfl | rfl | rfl | rfl | rfl | rfl | rfl | rfl | rfl | rfl | rfl | rfl | rfl | rfl | rfl | rfl | rfl | rfl | rfl | rfl | rfl : i9 = 0 ∨ i9 = 1 ∨ i9 = 2 ∨ i9 = 3 ∨ i9 = 4 ∨ i9 = 5 ∨ i9 = 6 ∨ i9 = 7 ∨ i9 = 8 ∨ i9 = 9 ∨ i9 = 10 ∨ i9 = 11 ∨ i9 = 12 ∨ i9 = 13 ∨ i9 = 14 ∨ i9 = 15 ∨ i9 = 16 ∨ i9 = 17 ∨ i9 = 18 ∨ i9 = 19 ∨ i9 = 20 ∨ i9 = 21 ∨ i9 = 22 := by omega
              · -- operation 0
                cases ho
                go_simp
                exact hK _ _ ⟨_, _, _, _, _, _, _, _, _, _, _, _, _, _, _, _, _, _, _, _, _, _, rfl, hB, fun _ => rfl, hh1, hh2, hh3, hh4, hh5, hh6, hh7, hh8, hh9, hh10, hh11, hh12, hh13, hh14, hh15, hh16, hh17, hh18, hh19, hh20, hh21, hh22, hx0, hx1, hx2, hx3, hx4, hx5⟩
              · -- operation 1
                cases ho
                go_simp
                exact hK _ _ ⟨_, _, _, _, _, _, _, _, _, _, _, _, _, _, _, _, _, _, _, _, _, _, rfl, hB, hh0, fun _ => rfl, hh2, hh3, hh4, hh5, hh6, hh7, hh8, hh9, hh10, hh11, hh12, hh13, hh14, hh15, hh16, hh17, hh18, hh19, hh20, hh21, hh22, hx0, hx1, hx2, hx3, hx4, hx5⟩
              · -- operation 2
                cases ho
                go_simp
                exact hK _ _ ⟨_, _, _, _, _, _, _, _, _, _, _, _, _, _, _, _, _, _, _, _, _, _, rfl, hB, hh0, hh1, fun _ => rfl, hh3, hh4, hh5, hh6, hh7, hh8, hh9, hh10, hh11, hh12, hh13, hh14, hh15, hh16, hh17, hh18, hh19, hh20, hh21, hh22, hx0, hx1, hx2, hx3, hx4, hx5⟩
              · -- operation 3
                cases ho
                go_simp
                exact hK _ _ ⟨_, _, _, _, _, _, _, _, _, _, _, _, _, _, _, _, _, _, _, _, _, _, rfl, hB, hh0, hh1, hh2, fun _ => rfl, hh4, hh5, hh6, hh7, hh8, hh9, hh10, hh11, hh12, hh13, hh14, hh15, hh16, hh17, hh18, hh19, hh20, hh21, hh22, hx0, hx1, hx2, hx3, hx4, hx5⟩
              · -- operation 4
                cases ho
                obtain rfl := hh2 (hdep ⟨2, .data⟩ (by simp) rfl)
                obtain rfl := hh3 (hdep ⟨3, .data⟩ (by simp) rfl)
                go_simp
                exact hK _ _ ⟨_, _, _, _, _, _, _, _, _, _, _, _, _, _, _, _, _, _, _, _, _, _, rfl, hB, hh0, hh1, hh2, hh3, fun _ => rfl, hh5, hh6, hh7, hh8, hh9, hh10, hh11, hh12, hh13, hh14, hh15, hh16, hh17, hh18, hh19, hh20, hh21, hh22, hx0, hx1, hx2, hx3, hx4, hx5⟩
              · -- operation 5
                cases ho
                obtain rfl := hh4 (hdep ⟨4, .data⟩ (by simp) rfl)
                go_simp
                exact hK _ _ ⟨_, _, _, _, _, _, _, _, _, _, _, _, _, _, _, _, _, _, _, _, _, _, rfl, hB, hh0, hh1, hh2, hh3, hh4, fun _ => rfl, hh6, hh7, hh8, hh9, hh10, hh11, hh12, hh13, hh14, hh15, hh16, hh17, hh18, hh19, hh20, hh21, hh22, hx0, hx1, hx2, hx3, hx4, hx5⟩
              · -- operation 6
                cases ho
                obtain rfl := hh5 (hdep ⟨5, .data⟩ (by simp) rfl)
                have hT : Fl9 22 = false := Bool.eq_false_iff.2 (fun h => absurd (hx2 h) (by rw [hL]; simp))
                have C9 := ((hx0 hT).at hiq).1
                go_simp
                exact hK _ _ ⟨_, _, _, _, _, _, _, _, _, _, _, _, _, _, _, _, _, _, _, _, _, _, rfl, hB, hh0, hh1, hh2, hh3, hh4, hh5, fun _ => rfl, hh7, hh8, hh9, hh10, hh11, hh12, hh13, hh14, hh15, hh16, hh17, hh18, hh19, hh20, hh21, hh22, hx0, hx1, fun _ => rfl, hx3, hx4, hx5⟩
              · -- operation 7
                cases ho
                go_simp
                exact hK _ _ ⟨_, _, _, _, _, _, _, _, _, _, _, _, _, _, _, _, _, _, _, _, _, _, rfl, hB, hh0, hh1, hh2, hh3, hh4, hh5, hh6, fun _ => rfl, hh8, hh9, hh10, hh11, hh12, hh13, hh14, hh15, hh16, hh17, hh18, hh19, hh20, hh21, hh22, hx0, hx1, hx2, hx3, hx4, hx5⟩
              · -- operation 8
                cases ho
                have hT : Fl9 22 = false := Bool.eq_false_iff.2 (fun h => absurd (hx4 h) (by rw [hL]; simp))
                have hbn8 := bN (Fl9 8)
                have hbn17 := bN (Fl9 17)
                obtain rfl := hh7 (hdep ⟨7, .data⟩ (by simp) rfl)
                obtain ⟨q9, q90, q91, H9⟩ := (hx1 trivial).at H.out
                go_simp
                refine (pick_at H9 (by omega) 3 (by omega)).mono ?_
                rintro e w9 ⟨z9, hb90, hb91, rfl, hs9⟩
                exact hK _ _ ⟨_, _, _, _, _, _, _, _, _, _, _, _, _, _, _, _, _, _, _, _, _, _, rfl, hB.trans ((UpW.grown hs9.grown).mono hB.size), hh0, hh1, hh2, hh3, hh4, hh5, hh6, hh7, fun _ => ⟨_, rfl, hb90, by omega⟩, hh9, hh10, hh11, hh12, hh13, hh14, hh15, hh16, hh17, hh18, hh19, hh20, hh21, (fun q0 => (fun ⟨y1, y2, h⟩ => ⟨y1, y2, h.kept hs9.grown (by omega) hgb hgb3⟩) (hh22 q0)), fun q0 => (hx0 q0).kept hs9.grown (by omega) hgb hgb3, fun _ => ((hx1 trivial).then hs9 q90 q91).mono (by simp [hL] <;> omega), hx2, hx3, fun _ => rfl, hx5⟩
              · -- operation 9
                cases ho
                obtain rfl := hh6 (hdep ⟨6, .data⟩ (by simp) rfl)
                obtain ⟨z55, rfl, -⟩ := hh8 (hdep ⟨8, .data⟩ (by simp) rfl)
                go_simp
                exact hK _ _ ⟨_, _, _, _, _, _, _, _, _, _, _, _, _, _, _, _, _, _, _, _, _, _, rfl, hB, hh0, hh1, hh2, hh3, hh4, hh5, hh6, hh7, hh8, fun _ => ⟨_, rfl⟩, hh10, hh11, hh12, hh13, hh14, hh15, hh16, hh17, hh18, hh19, hh20, hh21, hh22, hx0, hx1, hx2, hx3, hx4, hx5⟩
              · -- operation 10
                cases ho
                obtain ⟨z56, rfl⟩ := hh9 (hdep ⟨9, .data⟩ (by simp) rfl)
                go_simp
                exact hK _ _ ⟨_, _, _, _, _, _, _, _, _, _, _, _, _, _, _, _, _, _, _, _, _, _, rfl, hB, hh0, hh1, hh2, hh3, hh4, hh5, hh6, hh7, hh8, hh9, fun _ => ⟨_, rfl⟩, hh11, hh12, hh13, hh14, hh15, hh16, hh17, hh18, hh19, hh20, hh21, hh22, hx0, hx1, hx2, hx3, hx4, hx5⟩
              · -- operation 11
                cases ho
                go_simp
                exact hK _ _ ⟨_, _, _, _, _, _, _, _, _, _, _, _, _, _, _, _, _, _, _, _, _, _, rfl, hB, hh0, hh1, hh2, hh3, hh4, hh5, hh6, hh7, hh8, hh9, hh10, fun _ => rfl, hh12, hh13, hh14, hh15, hh16, hh17, hh18, hh19, hh20, hh21, hh22, hx0, hx1, hx2, hx3, hx4, hx5⟩
              · -- operation 12
                cases ho
                go_simp
                exact hK _ _ ⟨_, _, _, _, _, _, _, _, _, _, _, _, _, _, _, _, _, _, _, _, _, _, rfl, hB, hh0, hh1, hh2, hh3, hh4, hh5, hh6, hh7, hh8, hh9, hh10, hh11, fun _ => rfl, hh13, hh14, hh15, hh16, hh17, hh18, hh19, hh20, hh21, hh22, hx0, hx1, hx2, hx3, hx4, hx5⟩
              · -- operation 13
                cases ho
                obtain rfl := hh11 (hdep ⟨11, .data⟩ (by simp) rfl)
                obtain rfl := hh12 (hdep ⟨12, .data⟩ (by simp) rfl)
                go_simp
                exact hK _ _ ⟨_, _, _, _, _, _, _, _, _, _, _, _, _, _, _, _, _, _, _, _, _, _, rfl, hB, hh0, hh1, hh2, hh3, hh4, hh5, hh6, hh7, hh8, hh9, hh10, hh11, hh12, fun _ => rfl, hh14, hh15, hh16, hh17, hh18, hh19, hh20, hh21, hh22, hx0, hx1, hx2, hx3, hx4, hx5⟩
              · -- operation 14
                cases ho
                obtain rfl := hh13 (hdep ⟨13, .data⟩ (by simp) rfl)
                go_simp
                exact hK _ _ ⟨_, _, _, _, _, _, _, _, _, _, _, _, _, _, _, _, _, _, _, _, _, _, rfl, hB, hh0, hh1, hh2, hh3, hh4, hh5, hh6, hh7, hh8, hh9, hh10, hh11, hh12, hh13, fun _ => rfl, hh15, hh16, hh17, hh18, hh19, hh20, hh21, hh22, hx0, hx1, hx2, hx3, hx4, hx5⟩
              · -- operation 15
                cases ho
                obtain rfl := hh14 (hdep ⟨14, .data⟩ (by simp) rfl)
                have hT : Fl9 22 = false := Bool.eq_false_iff.2 (fun h => absurd (hx3 h) (by rw [hL]; simp))
                have C9 := ((hx0 hT).at hiq).2
                go_simp
                exact hK _ _ ⟨_, _, _, _, _, _, _, _, _, _, _, _, _, _, _, _, _, _, _, _, _, _, rfl, hB, hh0, hh1, hh2, hh3, hh4, hh5, hh6, hh7, hh8, hh9, hh10, hh11, hh12, hh13, hh14, fun _ => rfl, hh16, hh17, hh18, hh19, hh20, hh21, hh22, hx0, hx1, hx2, fun _ => rfl, hx4, hx5⟩
              · -- operation 16
                cases ho
                go_simp
                exact hK _ _ ⟨_, _, _, _, _, _, _, _, _, _, _, _, _, _, _, _, _, _, _, _, _, _, rfl, hB, hh0, hh1, hh2, hh3, hh4, hh5, hh6, hh7, hh8, hh9, hh10, hh11, hh12, hh13, hh14, hh15, fun _ => rfl, hh17, hh18, hh19, hh20, hh21, hh22, hx0, hx1, hx2, hx3, hx4, hx5⟩
              · -- operation 17
                cases ho
                have hT : Fl9 22 = false := Bool.eq_false_iff.2 (fun h => absurd (hx5 h) (by rw [hL]; simp))
                have hbn8 := bN (Fl9 8)
                have hbn17 := bN (Fl9 17)
                obtain rfl := hh16 (hdep ⟨16, .data⟩ (by simp) rfl)
                obtain ⟨q9, q90, q91, H9⟩ := (hx1 trivial).at H.out
                go_simp
                refine (pick_at H9 (by omega) 3 (by omega)).mono ?_
                rintro e w9 ⟨z9, hb90, hb91, rfl, hs9⟩
                exact hK _ _ ⟨_, _, _, _, _, _, _, _, _, _, _, _, _, _, _, _, _, _, _, _, _, _, rfl, hB.trans ((UpW.grown hs9.grown).mono hB.size), hh0, hh1, hh2, hh3, hh4, hh5, hh6, hh7, hh8, hh9, hh10, hh11, hh12, hh13, hh14, hh15, hh16, fun _ => ⟨_, rfl, hb90, by omega⟩, hh18, hh19, hh20, hh21, (fun q0 => (fun ⟨y1, y2, h⟩ => ⟨y1, y2, h.kept hs9.grown (by omega) hgb hgb3⟩) (hh22 q0)), fun q0 => (hx0 q0).kept hs9.grown (by omega) hgb hgb3, fun _ => ((hx1 trivial).then hs9 q90 q91).mono (by simp [hL] <;> omega), hx2, hx3, hx4, fun _ => rfl⟩
              · -- operation 18
                cases ho
                obtain rfl := hh15 (hdep ⟨15, .data⟩ (by simp) rfl)
                obtain ⟨z64, rfl, -⟩ := hh17 (hdep ⟨17, .data⟩ (by simp) rfl)
                go_simp
                exact hK _ _ ⟨_, _, _, _, _, _, _, _, _, _, _, _, _, _, _, _, _, _, _, _, _, _, rfl, hB, hh0, hh1, hh2, hh3, hh4, hh5, hh6, hh7, hh8, hh9, hh10, hh11, hh12, hh13, hh14, hh15, hh16, hh17, fun _ => ⟨_, rfl⟩, hh19, hh20, hh21, hh22, hx0, hx1, hx2, hx3, hx4, hx5⟩
              · -- operation 19
                cases ho
                obtain ⟨z65, rfl⟩ := hh18 (hdep ⟨18, .data⟩ (by simp) rfl)
                go_simp
                exact hK _ _ ⟨_, _, _, _, _, _, _, _, _, _, _, _, _, _, _, _, _, _, _, _, _, _, rfl, hB, hh0, hh1, hh2, hh3, hh4, hh5, hh6, hh7, hh8, hh9, hh10, hh11, hh12, hh13, hh14, hh15, hh16, hh17, hh18, fun _ => ⟨_, rfl⟩, hh20, hh21, hh22, hx0, hx1, hx2, hx3, hx4, hx5⟩
              · -- operation 20
                cases ho
                obtain ⟨z57, rfl⟩ := hh10 (hdep ⟨10, .data⟩ (by simp) rfl)
                obtain ⟨z66, rfl⟩ := hh19 (hdep ⟨19, .data⟩ (by simp) rfl)
                go_simp
                exact hK _ _ ⟨_, _, _, _, _, _, _, _, _, _, _, _, _, _, _, _, _, _, _, _, _, _, rfl, hB, hh0, hh1, hh2, hh3, hh4, hh5, hh6, hh7, hh8, hh9, hh10, hh11, hh12, hh13, hh14, hh15, hh16, hh17, hh18, hh19, fun _ => ⟨_, _, rfl⟩, hh21, hh22, hx0, hx1, hx2, hx3, hx4, hx5⟩
              · -- operation 21
                cases ho
                obtain rfl := hh0 (hdep ⟨0, .data⟩ (by simp) rfl)
                obtain rfl := hh1 (hdep ⟨1, .data⟩ (by simp) rfl)
                go_simp
                exact hK _ _ ⟨_, _, _, _, _, _, _, _, _, _, _, _, _, _, _, _, _, _, _, _, _, _, rfl, hB, hh0, hh1, hh2, hh3, hh4, hh5, hh6, hh7, hh8, hh9, hh10, hh11, hh12, hh13, hh14, hh15, hh16, hh17, hh18, hh19, hh20, fun _ => rfl, hh22, hx0, hx1, hx2, hx3, hx4, hx5⟩
              · -- operation 22
                cases ho
                have hp6 := hdep ⟨6, .phase⟩ (by simp) rfl
                have hp15 := hdep ⟨15, .phase⟩ (by simp) rfl
                have hp8 := hdep ⟨8, .phase⟩ (by simp) rfl
                have hp17 := hdep ⟨17, .phase⟩ (by simp) rfl
                obtain ⟨y1, y2, rfl⟩ := hh20 (hdep ⟨20, .data⟩ (by simp) rfl)
                obtain rfl := hh21 (hdep ⟨21, .data⟩ (by simp) rfl)
                have hst := (hx0 hL).set hiq y1 y2
                have ce := (hx0 hL).at hiq
                obtain ⟨ce0, ce1⟩ := ce
                have cf0 := (hx0 hL).r.frozenAt (i * 2)
                have cf1 := (hx0 hL).r.frozenAt (i * 2 + 1)
                go_simp
                exact hK _ _ ⟨_, _, _, _, _, _, _, _, _, _, _, _, _, _, _, _, _, _, _, _, _, _, rfl, hB.trans ((UpW.grown hst.2).mono hB.size), hh0, hh1, hh2, hh3, hh4, hh5, (fun _ => rfl), hh7, hh8, hh9, hh10, hh11, hh12, hh13, hh14, (fun _ => rfl), hh16, hh17, hh18, hh19, hh20, hh21, fun _ => ⟨y1, y2, hst.1⟩, (fun q0 => nomatch q0), fun _ => (hx1 trivial).own hst.2 hg1 (by omega), fun _ => hp6, fun _ => hp15, fun _ => hp8, fun _ => hp17⟩
            intro Fl9 ac W hJ hall
            obtain ⟨x47, x48, x49, x50, x51, x52, x53, x54, x55, x56, x57, x58, x59, x60, x61, x62, x63, x64, x65, x66, x67, x68, rfl, hB, hh0, hh1, hh2, hh3, hh4, hh5, hh6, hh7, hh8, hh9, hh10, hh11, hh12, hh13, hh14, hh15, hh16, hh17, hh18, hh19, hh20, hh21, hh22, -, hcs9, -, -, -, -⟩ := hJ
            obtain rfl := hh0 (hall 0 (by decide))
            obtain rfl := hh1 (hall 1 (by decide))
            obtain rfl := hh2 (hall 2 (by decide))
            obtain rfl := hh3 (hall 3 (by decide))
            obtain rfl := hh4 (hall 4 (by decide))
            obtain rfl := hh5 (hall 5 (by decide))
            obtain rfl := hh6 (hall 6 (by decide))
            obtain rfl := hh7 (hall 7 (by decide))
            obtain rfl := hh11 (hall 11 (by decide))
            obtain rfl := hh12 (hall 12 (by decide))
            obtain rfl := hh13 (hall 13 (by decide))
            obtain rfl := hh14 (hall 14 (by decide))
            obtain rfl := hh15 (hall 15 (by decide))
            obtain rfl := hh16 (hall 16 (by decide))
            obtain rfl := hh21 (hall 21 (by decide))
            obtain - := hh8 (hall 8 (by decide))
            obtain - := hh9 (hall 9 (by decide))
            obtain - := hh10 (hall 10 (by decide))
            obtain - := hh17 (hall 17 (by decide))
            obtain - := hh18 (hall 18 (by decide))
            obtain - := hh19 (hall 19 (by decide))
            obtain - := hh20 (hall 20 (by decide))
            obtain ⟨y1, y2, P7⟩ := hh22 (hall 22 (by decide))
            clear hall
            have S12 := Lib.hid (hcs9 trivial)
            have P12 := Lib.hid P7
            have hbn := bN (Fl9 8)
            have hbn2 := bN (Fl9 17)
            obtain ⟨L, hLx⟩ : ∃ x, x = L.set i ⟨y1, y2⟩ := ⟨_, rfl⟩
            rw [← hLx] at P12
            clear hcs9 hB P6 S6 P7 hLx
            -- one more, or none
            obtain ⟨r5, r50, r51, H5⟩ := S12.out.at H.out
            go_wp2_with fail
            refine (one_at H5 (by omega) 24 (by omega)).mono ?_
            rintro e w7 ⟨y, rfl, hs⟩
            have S8 := Lib.hid (S12.out.then hs r50 r51)
            have P8 := Lib.hid (P12.out.kept hs.grown hgl trivial trivial)
            clear hs H5 r50 r51 S12 P12
            cases y with
            | true =>
              have HPA := Lib.hid (P8.out.below (below1x w7 (.cells #[.int .i64 0, .int .i64 0] 42)))
              have HSA := Lib.hid (S8.out.alloc (.cells #[.int .i64 0, .int .i64 0] 42))
              have HSZ := Lib.hid S8.out.grown.size
              clear P8 S8
              go_wp2_with (at_builtin; go_loud (refine wpList_append_own _ rfl (.tmp 71) (.tmp 73) 29 rfl w.heap.size 42 i0 (.agg #[.int .i64 0, .int .i64 0]) 2 16 Try.underlying29 hi hz0 hz1 hz2 rfl (by decide) (.slice (some ⟨g1, 0, none⟩) q c1) q _ rfl HPA.out.r ⟨w7.heap.size, 0, none⟩ 1 1 [.int .i64 0, .int .i64 0] rfl rfl (cell_2S _ _ _ _) (by simp [Value.oneCell']) (by unfold maxLen; omega) (by omega) (by have := HSZ.out; simp; omega) ?_; intro v1 w6 hown1 hgrow1 hnil1; obtain ⟨g5, c5, rfl, hg5⟩ := own_some hown1 (fun e => absurd (hnil1.1 e).2 (by decide)); have S9 := Lib.hid (HSA.out.row hgrow1 HPA.out.r hgl); have P9 : Hid (SpS w.heap.size w6 g5 (q + 1) c5 (L ++ [⟨0, 0⟩])) := Lib.hid ⟨by rw [flatSpot_append]; exact hown1⟩; clear hnil1 hgrow1 hown1 HPA HSA HSZ))
              go_wp2_with fail
              refine bodyPost_ret (results_tmp rfl _ _ _) rfl ?_
              exact ⟨g5, q + 1, c5, _, rfl, by omega, P9.out, S9.out.mono (by omega)⟩
            | false =>
              go_wp2_with fail
              refine bodyPost_ret (results_tmp rfl _ _ _) rfl ?_
              exact ⟨g1, q, c1, _, rfl, by omega, P8.out, S8.out.mono (by omega)⟩
          | false =>
            -- one more, or none
            obtain ⟨r5, r50, r51, H5⟩ := S11.out.at H.out
            go_wp2_with fail
            refine (one_at H5 (by omega) 24 (by omega)).mono ?_
            rintro e w7 ⟨y, rfl, hs⟩
            have S8 := Lib.hid (S11.out.then hs r50 r51)
            have P8 := Lib.hid (P11.out.kept hs.grown hgl trivial trivial)
            clear hs H5 r50 r51 S11 P11
            cases y with
            | true =>
              have HPA := Lib.hid (P8.out.below (below1x w7 (.cells #[.int .i64 0, .int .i64 0] 42)))
              have HSA := Lib.hid (S8.out.alloc (.cells #[.int .i64 0, .int .i64 0] 42))
              have HSZ := Lib.hid S8.out.grown.size
              clear P8 S8
              go_wp2_with (at_builtin; go_loud (refine wpList_append_own _ rfl (.tmp 71) (.tmp 73) 29 rfl w.heap.size 42 i0 (.agg #[.int .i64 0, .int .i64 0]) 2 16 Try.underlying29 hi hz0 hz1 hz2 rfl (by decide) (.slice (some ⟨g1, 0, none⟩) q c1) q _ rfl HPA.out.r ⟨w7.heap.size, 0, none⟩ 1 1 [.int .i64 0, .int .i64 0] rfl rfl (cell_2S _ _ _ _) (by simp [Value.oneCell']) (by unfold maxLen; omega) (by omega) (by have := HSZ.out; simp; omega) ?_; intro v1 w6 hown1 hgrow1 hnil1; obtain ⟨g5, c5, rfl, hg5⟩ := own_some hown1 (fun e => absurd (hnil1.1 e).2 (by decide)); have S9 := Lib.hid (HSA.out.row hgrow1 HPA.out.r hgl); have P9 : Hid (SpS w.heap.size w6 g5 (q + 1) c5 (L ++ [⟨0, 0⟩])) := Lib.hid ⟨by rw [flatSpot_append]; exact hown1⟩; clear hnil1 hgrow1 hown1 HPA HSA HSZ))
              go_wp2_with fail
              refine bodyPost_ret (results_tmp rfl _ _ _) rfl ?_
              exact ⟨g5, q + 1, c5, _, rfl, by omega, P9.out, S9.out.mono (by omega)⟩
            | false =>
              go_wp2_with fail
              refine bodyPost_ret (results_tmp rfl _ _ _) rfl ?_
              exact ⟨g1, q, c1, _, rfl, by omega, P8.out, S8.out.mono (by omega)⟩
        · have hq0i : ¬ (0 : Int) < (q : Int) := by omega
          refine Lib.hid ?_
          -- one more, or none
          obtain ⟨r5, r50, r51, H5⟩ := S10.out.at H.out
          go_wp2_with fail
          refine (one_at H5 (by omega) 24 (by omega)).mono ?_
          rintro e w7 ⟨y, rfl, hs⟩
          have S8 := Lib.hid (S10.out.then hs r50 r51)
          have P8 := Lib.hid (P10.out.kept hs.grown hgl trivial trivial)
          clear hs H5 r50 r51 S10 P10
          cases y with
          | true =>
            have HPA := Lib.hid (P8.out.below (below1x w7 (.cells #[.int .i64 0, .int .i64 0] 42)))
            have HSA := Lib.hid (S8.out.alloc (.cells #[.int .i64 0, .int .i64 0] 42))
            have HSZ := Lib.hid S8.out.grown.size
            clear P8 S8
            go_wp2_with (at_builtin; go_loud (refine wpList_append_own _ rfl (.tmp 71) (.tmp 73) 29 rfl w.heap.size 42 i0 (.agg #[.int .i64 0, .int .i64 0]) 2 16 Try.underlying29 hi hz0 hz1 hz2 rfl (by decide) (.slice (some ⟨g1, 0, none⟩) q c1) q _ rfl HPA.out.r ⟨w7.heap.size, 0, none⟩ 1 1 [.int .i64 0, .int .i64 0] rfl rfl (cell_2S _ _ _ _) (by simp [Value.oneCell']) (by unfold maxLen; omega) (by omega) (by have := HSZ.out; simp; omega) ?_; intro v1 w6 hown1 hgrow1 hnil1; obtain ⟨g5, c5, rfl, hg5⟩ := own_some hown1 (fun e => absurd (hnil1.1 e).2 (by decide)); have S9 := Lib.hid (HSA.out.row hgrow1 HPA.out.r hgl); have P9 : Hid (SpS w.heap.size w6 g5 (q + 1) c5 (L ++ [⟨0, 0⟩])) := Lib.hid ⟨by rw [flatSpot_append]; exact hown1⟩; clear hnil1 hgrow1 hown1 HPA HSA HSZ))
            go_wp2_with fail
            refine bodyPost_ret (results_tmp rfl _ _ _) rfl ?_
            exact ⟨g5, q + 1, c5, _, rfl, by omega, P9.out, S9.out.mono (by omega)⟩
          | false =>
            go_wp2_with fail
            refine bodyPost_ret (results_tmp rfl _ _ _) rfl ?_
            exact ⟨g1, q, c1, _, rfl, by omega, P8.out, S8.out.mono (by omega)⟩
end Go.Proofs.Ytdleidlmjliapaa
