/- Chapter 11: the lists of Pools and the orders that the laws draw. -/
import Derived.Test.YtgnopkemcgbedaaPpA
import Derived.Test.YtgnopkemcgbedaaPoG
import Derived.Test.YtgnopkemcgbedaaDraw
import Derived.Laws.OwnMore
namespace Go.Proofs.Ytgnopkemcgbedaa
open Go.RowKit Go.PlainAid Go.Sort
set_option linter.unusedVariables false
set_option linter.unusedSimpArgs false

theorem IsPools.take {w : World} {B : Nat} {A : Option Addr} {n : Nat} {vs : List TPool} (h : IsPools w B A n vs) {k : Nat} (hk : k ≤ n) : IsPools w B A k (vs.take k) := by
  refine ⟨by rw [List.length_take, h.len]; omega, h.low, fun j u hu => h.has j u ?_⟩
  have e : flatPool vs = flatPool (vs.take k) ++ flatPool (vs.drop k) := by rw [← flatPool_append, List.take_append_drop]
  rw [e, List.getElem?_append_left (List.getElem?_eq_some_iff.1 hu).1]
  exact hu
theorem has_grown {W W' : World} {B : Nat} {a : Addr} {xs : List Value} {g : Nat} (h : Has W B (some a) xs) (hB : B ≤ W.heap.size) (hg : W.grownBy W' (some g)) (hne : a.block ≠ g) : Has W' W'.heap.size (some a) xs := by
  intro k u hu
  obtain ⟨p, e, h1, h2⟩ := h k u hu
  injection e with e
  subst e
  have hlt : a.block < W.heap.size := by omega
  refine ⟨a, rfl, Nat.lt_of_lt_of_le hlt hg.size, ?_⟩
  rw [World.cell?_of_block (a := a.add k) (w := W) (by rw [addBlock]; exact hg.block _ hlt (fun e => hne (by injection e)))]
  exact h2
/-- Pools in a row of one's own; Pools that lie somewhere above. -/
def OwnQ (w W : World) (g1 q c1 : Nat) : Prop := ∃ L : List TPool, w.heap.size ≤ g1 ∧ W.ownsRow w.heap.size 35 3 (.slice (some ⟨g1, 0, none⟩) q c1) q (flatPool L)
theorem OwnQ.kept {w W W' : World} {g1 q c1 : Nat} {g : Nat} (h : OwnQ w W g1 q c1) (hg : W.grownBy W' (some g)) (hne : g1 ≠ g) : OwnQ w W' g1 q c1 := by
  obtain ⟨L, h1, h2⟩ := h
  exact ⟨L, h1, h2.kept hg (.inr (by simp [Value.ownBlock]; exact hne))⟩
theorem OwnQ.below {w W W' : World} {g1 q c1 : Nat} (h : OwnQ w W g1 q c1) (hb : Below W.heap.size W W') : OwnQ w W' g1 q c1 := by
  obtain ⟨L, h1, h2⟩ := h
  exact ⟨L, h1, own_below h2 hb⟩
theorem OwnQ.g {w W : World} {g1 q c1 : Nat} (h : OwnQ w W g1 q c1) : w.heap.size ≤ g1 := by
  obtain ⟨L, h1, h2⟩ := h
  exact h1
def HasQ (w W : World) (g1 q c1 : Nat) : Prop := ∃ vs : List TPool, w.heap.size ≤ g1 ∧ q ≤ c1 ∧ IsPools W W.heap.size (some ⟨g1, 0, none⟩) q vs
theorem OwnQ.has {w W : World} {g1 q c1 : Nat} (h : OwnQ w W g1 q c1) : HasQ w W g1 q c1 := by
  obtain ⟨L, h1, h2⟩ := h
  exact ⟨L, h1, own_capP h2, own_Pools h2⟩
theorem HasQ.kept {w W W' : World} {g1 q c1 g : Nat} (h : HasQ w W g1 q c1) (hg : W.grownBy W' (some g)) (hne : g1 ≠ g) : HasQ w W' g1 q c1 := by
  obtain ⟨vs, h1, h2, h3⟩ := h
  exact ⟨vs, h1, h2, h3.len, Nat.le_refl _, has_grown h3.has h3.low hg hne⟩
theorem HasQ.below {w W W' : World} {g1 q c1 : Nat} (h : HasQ w W g1 q c1) (hb : Below W.heap.size W W') : HasQ w W' g1 q c1 := by
  obtain ⟨vs, h1, h2, h3⟩ := h
  exact ⟨vs, h1, h2, h3.len, Nat.le_refl _, (h3.below hb (Nat.le_refl _)).all.has⟩
/-- What a draw of Pools hands back. -/
def GivesQ (w : World) (g : Nat) (A : Option Addr) (n c : Nat) (p : Int) (e : Ending) (w' : World) : Prop :=
  ∃ g1 q c1, e = .returned (.slice (some ⟨g1, 0, none⟩) q c1) ∧ q ≤ 8 ∧ HasQ w w' g1 q c1 ∧ CurStep w w' g A n c p 200
set_option maxRecDepth 100000 in
set_option maxHeartbeats 8000000 in
theorem pools_at {g : Nat} {A : Option Addr} {n c : Nat} {p : Int} {zs : List Int} {B : Nat} {w : World} (h : CurAt w g A n c p zs B) (hp : p ≤ 800000000) :
    Calls Try.prog 54 #[.pointer (some ⟨g, 0, none⟩)] w (GivesQ w g A n c p) := by
  obtain ⟨i0, hi, hz0, hz1, hz2⟩ := info_parts Try.infoPool'
  have H := Lib.hid h
  have hgl := h.lt
  have hp0 := h.p0
  have S0 := Lib.hid (CurStep.refl h.cur)
  have C := Lib.hid (pool_at h (by omega))
  clear h
  go_enter Try.func54, Try.ntmps54
  go_wp2_with fail
  refine C.out.mono ?_
  rintro e w2 ⟨f0, f1, f2, rfl, hs⟩
  have hsg := hs.grown.size
  have S2 := Lib.hid ((hs.mono (d' := 30) (by omega)).alloc (.cells #[.int .i64 f0, .int .i64 f1, .int .i64 f2] 35))
  have O2 : Hid (OwnQ w (w2.alloc (.cells #[.int .i64 f0, .int .i64 f1, .int .i64 f2] 35)) w2.heap.size 1 1) := Lib.hid ⟨[⟨f0, f1, f2⟩], hsg, own_low (World.ownsRow_lit w2 #[.int .i64 f0, .int .i64 f1, .int .i64 f2] 1 (Nat.le_refl _) (by unfold maxLen; omega) rfl) hsg⟩
  clear hs C S0
  go_wp2_with fail
  obtain ⟨W1, hW1⟩ : ∃ x, w2.alloc (.cells #[.int .i64 f0, .int .i64 f1, .int .i64 f2] 35) = x := ⟨_, rfl⟩
  rw [hW1] at S2 O2 ⊢
  obtain ⟨xb, hxb⟩ : ∃ x, w2.heap.size = x := ⟨_, rfl⟩
  rw [hxb] at O2 hsg
  try simp only [hxb]
  have hbg : xb ≠ g := by have := hgl; omega
  obtain ⟨r5, r50, r51, H5⟩ := S2.out.at H.out
  refine (pick_at H5 (by omega) 4 (by omega)).mono ?_
  rintro e w6 ⟨b6, b60, b61, rfl, hs⟩
  obtain ⟨k6, rfl⟩ : ∃ k : Nat, b6 = (k : Int) := ⟨b6.toNat, by omega⟩
  have hk6 : k6 ≤ 3 := by omega
  have S6 := Lib.hid ((S2.out.then hs r50 r51).mono (d' := 40 + 20 * (4 - ((k6 + 1 : Nat) : Int))) (by omega))
  have O6 := Lib.hid (O2.out.kept hs.grown (by omega))
  clear hs S2 O2 H5 r50 r51 b60 b61 hW1 hxb
  go_wp2_with fail
  go_loopw [3, 4] (fun v i wr => ∃ (k q g1 c1 : Nat), k ≤ 4 ∧ i = .int .i64 k ∧ v = .slice (some ⟨g1, 0, none⟩) q c1 ∧ q + k ≤ 5 ∧ 1 ≤ q ∧ Hid (OwnQ w wr g1 q c1) ∧ Hid (CurStep w wr g A n c p (40 + 20 * (4 - (k : Int))))) (fun _ i _ => (intOf i).toNat)
  case atStart => exact ⟨k6 + 1, 1, xb, 1, by omega, by go_num, rfl, by omega, by omega, O6, S6⟩
  case round =>
    clear O6 S6 hk6
    obtain ⟨k, q, g1, c1, hk, rfl, rfl, hq, hq1, O6, S6⟩ := hrel
    have hgg := O6.out.g
    by_cases hlt : 0 < (k : Int)
    · obtain ⟨k, rfl⟩ : ∃ j, k = j + 1 := ⟨k - 1, by omega⟩
      obtain ⟨r5, r50, r51, H5⟩ := S6.out.at H.out
      go_wp2_with fail
      refine (pool_at H5 (by push_cast at r51; omega)).mono ?_
      rintro e w7 ⟨x0, x1, x2, rfl, hs⟩
      have S7 := Lib.hid (S6.out.then hs r50 r51)
      have O7 := Lib.hid (O6.out.kept hs.grown (by omega))
      clear hs S6 O6 H5 r50 r51
      obtain ⟨L7, hg7, ho7⟩ := O7.out
      have hne7 : g1 ≠ g := by omega
      have hsz7 := S7.out.grown.size
      have HS7 := Lib.hid (S7.out.alloc (.cells #[.int .i64 x0, .int .i64 x1, .int .i64 x2] 35))
      clear O7 S7
      go_wp2_with (at_builtin; refine wpList_append_own _ rfl (.tmp 16) (.tmp 19) 24 rfl w.heap.size 35 i0 (.agg #[.int .i64 0, .int .i64 0, .int .i64 0]) 3 24 Try.underlying24 hi hz0 hz1 hz2 rfl (by decide) (.slice (some ⟨g1, 0, none⟩) q c1) q _ rfl (ho7.alloc (.cells #[.int .i64 x0, .int .i64 x1, .int .i64 x2] 35)) ⟨w7.heap.size, 0, none⟩ 1 1 [.int .i64 x0, .int .i64 x1, .int .i64 x2] rfl rfl (cell_three_new _ _ _ _ _) (by simp [Value.oneCell']) (by unfold maxLen; omega) (by omega) (by simp; omega) ?_; intro v1 w1 hown1 hgrow1 hnil1; obtain ⟨g2, c2, rfl, hg2⟩ := own_some hown1 (fun e => nomatch (hnil1.1 e).1); have S9 := Lib.hid (HS7.out.own hgrow1 hg7 hne7); have O9 : Hid (OwnQ w w1 g2 (q + 1) c2) := Lib.hid ⟨L7 ++ [(⟨x0, x1, x2⟩ : TPool)], hg2, (by rw [flatPool_append]; exact hown1)⟩; clear hnil1 hgrow1 hown1 HS7 ho7)
      go_roundw
      case rel => exact ⟨k, q + 1, g2, c2, by omega, by go_num, rfl, by omega, by omega, O9, Lib.hid (S9.out.mono (by push_cast; omega))⟩
      case measure => simp [intOf]
    · obtain rfl : k = 0 := by omega
      have SR := Lib.hid (S6.out.mono (d' := 120) (by omega))
      have OR := O6
      clear S6 O6 hlt
      obtain ⟨r5, r50, r51, H5⟩ := SR.out.at H.out
      go_wp2_with fail
      refine (one_at H5 (by omega) 2 (by omega)).mono ?_
      rintro e w7 ⟨t, rfl, hs⟩
      have S7 := Lib.hid (SR.out.then hs r50 r51)
      have O7 := Lib.hid (OR.out.kept hs.grown (by omega))
      clear hs SR OR H5 r50 r51
      cases t with
      | false =>
        have S7b := Lib.hid (S7.out.mono (d' := 140) (by omega))
        clear S7
        -- O6 : OwnQ at w6, S6, q between 2 and 5
        obtain ⟨r5, r50, r51, H5⟩ := S7b.out.at H.out
        go_wp2_with fail
        refine (pick_at H5 (by omega) 40 (by omega)).mono ?_
        rintro e w17 ⟨b, b80, b81, rfl, hs⟩
        have S17 := Lib.hid (S7b.out.then hs r50 r51)
        have O17 := Lib.hid (O7.out.kept hs.grown (by omega))
        clear hs S7b O7 H5 r50 r51 b80 b81
        by_cases n0 : b = 0
        · subst n0
          have HQ := Lib.hid O17.out.has
          have hqc : (1 : Int) ≤ (c1 : Int) := by obtain ⟨_, _, h, _⟩ := HQ.out; omega
          have HT : Hid (HasQ w w17 g1 1 c1) := Lib.hid (by
            obtain ⟨vs, h1, h2, h3⟩ := HQ.out
            exact ⟨vs.take 1, h1, by omega, h3.take (by omega)⟩)
          clear HQ O17
          go_wp2_with fail
          refine bodyPost_ret (results_tmp rfl _ _ _) rfl ?_
          exact ⟨g1, 1, _, rfl, by omega, HT.out, S17.out.mono (by omega)⟩
        · by_cases n1 : b = 1
          · subst n1
            have S7' := Lib.hid (S17.out.mono (d' := 160 + 2 * (q : Int)) (by omega))
            clear S17 n0
            go_wp2_with fail
            go_loopw [3] (fun v wr => ∃ (q g1 c1 : Nat), v = .slice (some ⟨g1, 0, none⟩) q c1 ∧ q ≤ 6 ∧ Hid (OwnQ w wr g1 q c1) ∧ Hid (CurStep w wr g A n c p (160 + 2 * (q : Int)))) (fun v _ => 9 - lenV v)
            case atStart => exact ⟨q, g1, c1, rfl, by omega, O17, S7'⟩
            case round =>
              clear O17 S7' hq hq1
              obtain ⟨q, g1, c1, rfl, hq8, O8, S8⟩ := hrel
              have hgg := O8.out.g
              by_cases hlt : (q : Int) < 6
              · skip
                obtain ⟨L7, hg7, ho7⟩ := O8.out
                have hne7 : g1 ≠ g := by omega
                have hsz7 := S8.out.grown.size
                have HS7 := Lib.hid (S8.out.alloc (.cells #[.int .i64 1, .int .i64 0, .int .i64 0] 35))
                clear O8 S8
                go_wp2_with (at_builtin; refine wpList_append_own _ rfl (.tmp 44) (.tmp 46) 24 rfl w.heap.size 35 i0 (.agg #[.int .i64 0, .int .i64 0, .int .i64 0]) 3 24 Try.underlying24 hi hz0 hz1 hz2 rfl (by decide) (.slice (some ⟨g1, 0, none⟩) q c1) q _ rfl (ho7.alloc (.cells #[.int .i64 1, .int .i64 0, .int .i64 0] 35)) ⟨wr.heap.size, 0, none⟩ 1 1 [.int .i64 1, .int .i64 0, .int .i64 0] rfl rfl (cell_three_new _ _ _ _ _) (by simp [Value.oneCell']) (by unfold maxLen; omega) (by omega) (by simp; omega) ?_; intro v1 w1 hown1 hgrow1 hnil1; obtain ⟨g2, c2, rfl, hg2⟩ := own_some hown1 (fun e => nomatch (hnil1.1 e).1); have S9 := Lib.hid (HS7.out.own hgrow1 hg7 hne7); have O9 : Hid (OwnQ w w1 g2 (q + 1) c2) := Lib.hid ⟨L7 ++ [(⟨1, 0, 0⟩ : TPool)], hg2, (by rw [flatPool_append]; exact hown1)⟩; clear hnil1 hgrow1 hown1 HS7 ho7)
                go_roundw
                case rel => exact ⟨q + 1, g2, c2, rfl, by omega, O9, Lib.hid (S9.out.mono (by push_cast; omega))⟩
                case measure => simp [lenV]; omega
              · skip
                go_wp2_with fail
                refine bodyPost_ret (results_tmp rfl _ _ _) rfl ?_
                exact ⟨g1, q, _, rfl, by omega, O8.out.has, S8.out.mono (by omega)⟩
          · have m0 : (b == 0) = false := by simp [n0]
            have m1 : (b == 1) = false := by simp [n1]
            clear n0 n1
            go_wp2_with fail
            refine bodyPost_ret (results_tmp rfl _ _ _) rfl ?_
            exact ⟨g1, q, _, rfl, by omega, O17.out.has, S17.out.mono (by omega)⟩
      | true =>
        have hq0 : 0 < q := by omega
        have hqi : (0 : Int) < (q : Int) := by omega
        obtain ⟨L, hL1, hL2⟩ := O7.out
        have hLl := own_lenP hL2
        obtain ⟨f0', f1', f2'⟩ := own_atP hL2 (k := 0) hq0
        simp only [Nat.zero_mul, Nat.zero_add] at f0' f1' f2'
        generalize L.getD 0 noPool = V at f0' f1' f2'
        obtain ⟨vd, vl, vm⟩ := V
        dsimp only at f0' f1' f2'
        have hg1 : g1 < w7.heap.size := World.block_lt_of_cell? w7 _ f0'
        have hgw : g < w7.heap.size := Nat.lt_of_lt_of_le hgl S7.out.grown.size
        have hws := S7.out.grown.size
        have hSA := S7.out.alloc (.cells #[.int .i64 vd, .int .i64 vl, .int .i64 vm] 35)
        have hO2 := O7.out.below (below1 w7 (.cells #[.int .i64 vd, .int .i64 vl, .int .i64 vm] 35))
        have hBX := BoxP.new w7 vd vl vm
        have hsz : (w7.alloc (.cells #[.int .i64 vd, .int .i64 vl, .int .i64 vm] 35)).heap.size = w7.heap.size + 1 := by simp
        clear hL2 hL1 O7 S7
        go_wp2_with fail
        obtain ⟨wi, hwi⟩ : ∃ W, w7.alloc (.cells #[.int .i64 vd, .int .i64 vl, .int .i64 vm] 35) = W := ⟨_, rfl⟩
        obtain ⟨xg, hxg⟩ : ∃ x, w7.heap.size = x := ⟨_, rfl⟩
        rw [hwi] at hO2 hSA hBX hsz ⊢
        rw [hxg] at hBX hgw hg1 hws hsz
        try simp only [hxg]
        clear hwi hxg f0' f1' f2'
        have hxgg : xg ≠ g := by omega
        have hgx1 : g1 ≠ xg := by omega
        have hne9 : g1 ≠ g := by omega
        obtain ⟨r5, r50, r51, H5⟩ := hSA.at H.out
        refine (among_new H5 (by omega) [1000, 5000, 99999] 3 rfl (by omega) (by omega) (xg + 1) hsz).mono ?_
        rintro e w9 ⟨z, -, rfl, hs⟩
        have S9 := Lib.hid (hSA.then hs r50 r51)
        have O9 := Lib.hid (hO2.kept hs.grown (by omega))
        have B9 := Lib.hid (hBX.kept hs.grown (by simp; omega))
        clear hs hSA hO2 hBX H5 r50 r51 hsz
        obtain ⟨L9, hL91, hL92⟩ := O9.out
        obtain ⟨e0, e1, e2⟩ := own_atP hL92 (k := 0) hq0
        have z0 := hL92.frozenAt 0
        have z1 := hL92.frozenAt 1
        have z2 := hL92.frozenAt 2
        simp only [Nat.zero_mul, Nat.zero_add] at e0 e1 e2
        have y0 := B9.out.c0
        have y1 := B9.out.c1
        have y2 := B9.out.c2
        have yf := B9.out.fz 2
        have hl9 := own_lenP hL92
        have HF := own_setP (own_set hL92 xg 2 (.int .i64 z) (by simp [Value.ownBlock]; exact hgx1)) hl9 (k := 0) hq0 vd vl z
        simp only [Nat.zero_mul, Nat.zero_add] at HF
        have S7b := Lib.hid (((S9.out.own (grown_setP w9 xg 2 (.int .i64 z)) hws hxgg).own HF.2 hL91 hne9).mono (d' := 140) (by omega))
        have O7b : Hid (OwnQ w _ g1 q c1) := Lib.hid ⟨_, hgg, HF.1⟩
        clear HF hL92 hl9
        go_wp2_with fail
        obtain ⟨W8, hW8⟩ : ∃ W, (((w9.setCell ⟨xg, 2, none⟩ (.int .i64 z)).setCell ⟨g1, 0, none⟩ (.int .i64 vd)).setCell ⟨g1, 1, none⟩ (.int .i64 vl)).setCell ⟨g1, 2, none⟩ (.int .i64 z) = W := ⟨_, rfl⟩
        rw [hW8] at S7b O7b ⊢
        clear hW8 z0 z1 z2 y0 y1 y2 yf e0 e1 e2 S9 O9 B9
        -- O6 : OwnQ at w6, S6, q between 2 and 5
        obtain ⟨r5, r50, r51, H5⟩ := S7b.out.at H.out
        skip
        refine (pick_at H5 (by omega) 40 (by omega)).mono ?_
        rintro e w17 ⟨b, b80, b81, rfl, hs⟩
        have S17 := Lib.hid (S7b.out.then hs r50 r51)
        have O17 := Lib.hid (O7b.out.kept hs.grown (by omega))
        clear hs S7b O7b H5 r50 r51 b80 b81
        by_cases n0 : b = 0
        · subst n0
          have HQ := Lib.hid O17.out.has
          have hqc : (1 : Int) ≤ (c1 : Int) := by obtain ⟨_, _, h, _⟩ := HQ.out; omega
          have HT : Hid (HasQ w w17 g1 1 c1) := Lib.hid (by
            obtain ⟨vs, h1, h2, h3⟩ := HQ.out
            exact ⟨vs.take 1, h1, by omega, h3.take (by omega)⟩)
          clear HQ O17
          go_wp2_with fail
          refine bodyPost_ret (results_tmp rfl _ _ _) rfl ?_
          exact ⟨g1, 1, _, rfl, by omega, HT.out, S17.out.mono (by omega)⟩
        · by_cases n1 : b = 1
          · subst n1
            have S7' := Lib.hid (S17.out.mono (d' := 160 + 2 * (q : Int)) (by omega))
            clear S17 n0
            go_wp2_with fail
            go_loopw [3] (fun v wr => ∃ (q g1 c1 : Nat), v = .slice (some ⟨g1, 0, none⟩) q c1 ∧ q ≤ 6 ∧ Hid (OwnQ w wr g1 q c1) ∧ Hid (CurStep w wr g A n c p (160 + 2 * (q : Int)))) (fun v _ => 9 - lenV v)
            case atStart => exact ⟨q, g1, c1, rfl, by omega, O17, S7'⟩
            case round =>
              clear O17 S7' hq hq1
              obtain ⟨q, g1, c1, rfl, hq8, O8, S8⟩ := hrel
              have hgg := O8.out.g
              by_cases hlt : (q : Int) < 6
              · skip
                obtain ⟨L7, hg7, ho7⟩ := O8.out
                have hne7 : g1 ≠ g := by omega
                have hsz7 := S8.out.grown.size
                have HS7 := Lib.hid (S8.out.alloc (.cells #[.int .i64 1, .int .i64 0, .int .i64 0] 35))
                clear O8 S8
                go_wp2_with (at_builtin; refine wpList_append_own _ rfl (.tmp 44) (.tmp 46) 24 rfl w.heap.size 35 i0 (.agg #[.int .i64 0, .int .i64 0, .int .i64 0]) 3 24 Try.underlying24 hi hz0 hz1 hz2 rfl (by decide) (.slice (some ⟨g1, 0, none⟩) q c1) q _ rfl (ho7.alloc (.cells #[.int .i64 1, .int .i64 0, .int .i64 0] 35)) ⟨wr.heap.size, 0, none⟩ 1 1 [.int .i64 1, .int .i64 0, .int .i64 0] rfl rfl (cell_three_new _ _ _ _ _) (by simp [Value.oneCell']) (by unfold maxLen; omega) (by omega) (by simp; omega) ?_; intro v1 w1 hown1 hgrow1 hnil1; obtain ⟨g2, c2, rfl, hg2⟩ := own_some hown1 (fun e => nomatch (hnil1.1 e).1); have S9 := Lib.hid (HS7.out.own hgrow1 hg7 hne7); have O9 : Hid (OwnQ w w1 g2 (q + 1) c2) := Lib.hid ⟨L7 ++ [(⟨1, 0, 0⟩ : TPool)], hg2, (by rw [flatPool_append]; exact hown1)⟩; clear hnil1 hgrow1 hown1 HS7 ho7)
                go_roundw
                case rel => exact ⟨q + 1, g2, c2, rfl, by omega, O9, Lib.hid (S9.out.mono (by push_cast; omega))⟩
                case measure => simp [lenV]; omega
              · skip
                go_wp2_with fail
                refine bodyPost_ret (results_tmp rfl _ _ _) rfl ?_
                exact ⟨g1, q, _, rfl, by omega, O8.out.has, S8.out.mono (by omega)⟩
          · have m0 : (b == 0) = false := by simp [n0]
            have m1 : (b == 1) = false := by simp [n1]
            clear n0 n1
            go_wp2_with fail
            refine bodyPost_ret (results_tmp rfl _ _ _) rfl ?_
            exact ⟨g1, q, _, rfl, by omega, O17.out.has, S17.out.mono (by omega)⟩
end Go.Proofs.Ytgnopkemcgbedaa
