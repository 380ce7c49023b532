/- Chapter 6: triples, and lists of them, that the laws draw. -/
import Derived.Test.YteeljlpbijmhlaaSeE
import Derived.Test.YteeljlpbijmhlaaSeSI
namespace Go.Proofs.Yteeljlpbijmhlaa
open Go.RowKit Go.PlainAid Go.Sort
set_option linter.unusedVariables false
set_option linter.unusedSimpArgs false

theorem ownI_full {w : World} {base : Nat} (cs : Array Value) (k : Nat) (hs : cs.size = k) (hb : base ≤ w.heap.size) (hk : k ≤ maxLen) :
    (w.alloc (.cells cs 3)).ownsRow base 3 1 (.slice (some ⟨w.heap.size, 0, none⟩) k k) k cs.toList :=
  ⟨by rw [Array.length_toList, hs]; omega, .inr ⟨w.heap.size, k, cs, rfl, hb, heap_alloc_new w _, Nat.le_refl _, hk, by omega, by rw [List.take_of_length_le (by rw [Array.length_toList, hs]; omega)]⟩⟩
theorem ownI_take {w : World} {base g n c : Nat} {e : TypeId} {xs : List Value} (h : w.ownsRow base e 1 (.slice (some ⟨g, 0, none⟩) n c) n xs) (m : Nat) (hm : m ≤ n) : w.ownsRow base e 1 (.slice (some ⟨g, 0, none⟩) m c) m (xs.take m) := by
  obtain ⟨h1, h2⟩ := h
  refine ⟨by rw [List.length_take]; omega, ?_⟩
  rcases h2 with ⟨e', -⟩ | ⟨g', cap, cur, e', hb, hg, hn, hcap, hsz, ht⟩
  · cases e'
  · injection e' with e1 e2 e3
    injection e1 with e1
    injection e1 with e1 _ _
    subst e1 e3
    refine .inr ⟨g, c, cur, rfl, hb, hg, by omega, hcap, hsz, ?_⟩
    rw [← ht, List.take_take]
    congr 1
    omega
/-- A drawn triple. -/
def OwnT (w W : World) (g1 q c1 : Nat) : Prop := OwnC w W g1 q c1

set_option maxRecDepth 100000 in
set_option maxHeartbeats 4000000 in
theorem triple_at {g : Nat} {A : Option Addr} {n c : Nat} {p : Int} {zs : List Int} {B : Nat} {w : World} (h : CurAt w g A n c p zs B) (hp : p ≤ 800000000) :
    Calls Try.prog 84 #[.pointer (some ⟨g, 0, none⟩)] w fun e w' => ∃ g1 q c1, e = .returned (.slice (some ⟨g1, 0, none⟩) q c1) ∧ q ≤ 4 ∧ OwnC w w' g1 q c1 ∧ CurStep w w' g A n c p 20 := by
  obtain ⟨i0, hi, hz0, hz1, hz2⟩ := info_parts Try.infoInt'
  have H := Lib.hid h
  have hgl := h.lt
  have hp0 := h.p0
  have H5 := h
  have r5 := p
  clear h
  go_enter Try.func84, Try.ntmps84
  go_wp2_with fail
  refine (level6_at H5 (by omega)).mono ?_
  rintro e w1 ⟨z1, rfl, hs⟩
  have S1 := Lib.hid hs
  clear hs H5 r5
  obtain ⟨r5, r50, r51, H5⟩ := S1.out.at H.out
  go_wp2_with fail
  refine (level6_at H5 (by omega)).mono ?_
  rintro e w2 ⟨z2, rfl, hs⟩
  have S2 := Lib.hid (S1.out.then hs r50 r51)
  clear hs S1 H5 r50 r51
  obtain ⟨r5, r50, r51, H5⟩ := S2.out.at H.out
  go_wp2_with fail
  refine (level6_at H5 (by omega)).mono ?_
  rintro e w3 ⟨z3, rfl, hs⟩
  have S3 := Lib.hid ((S2.out.then hs r50 r51).alloc (.cells #[.int .i64 z1, .int .i64 z2, .int .i64 z3] 3))
  have hsz3 : w.heap.size ≤ w3.heap.size := (S2.out.then hs r50 r51).grown.size
  have O3 : Hid (OwnC w (w3.alloc (.cells #[.int .i64 z1, .int .i64 z2, .int .i64 z3] 3)) w3.heap.size 3 3) := Lib.hid ⟨[z1, z2, z3], hsz3, ownI_full _ 3 rfl hsz3 (by unfold maxLen; omega)⟩
  clear hs S2 H5 r50 r51
  obtain ⟨W3, hW3⟩ : ∃ W, w3.alloc (.cells #[.int .i64 z1, .int .i64 z2, .int .i64 z3] 3) = W := ⟨_, rfl⟩
  obtain ⟨g1, hg1⟩ : ∃ g, w3.heap.size = g := ⟨_, rfl⟩
  rw [hW3] at S3 O3
  rw [hg1] at O3 hsz3
  have HW3 := Lib.hid hW3
  have HG1 := Lib.hid hg1
  clear hW3 hg1
  obtain ⟨r5, r50, r51, H5⟩ := S3.out.at H.out
  go_wp2_with fail
  simp only [HW3.out, HG1.out]
  refine (pick_at H5 (by omega) 40 (by omega)).mono ?_
  rintro e w7 ⟨b8, b80, b81, rfl, hs⟩
  have S7 := Lib.hid (S3.out.then hs r50 r51)
  have O7 := Lib.hid (O3.out.kept hs.grown (by omega))
  clear hs S3 O3 H5 r50 r51 b80 b81 HW3 HG1
  by_cases h0 : b8 = 0
  · subst h0
    obtain ⟨L7, hg7, ho7⟩ := O7.out
    have O8 : Hid (OwnC w w7 g1 2 3) := Lib.hid ⟨L7.take 2, hg7, by rw [List.map_take]; exact ownI_take ho7 2 (by omega)⟩
    clear O7 ho7
    go_wp2_with fail
    refine bodyPost_ret (results_tmp rfl _ _ _) rfl ?_
    exact ⟨g1, 2, 3, rfl, by omega, O8.out, S7.out.mono (by omega)⟩
  · by_cases h1 : b8 = 1
    · subst h1
      obtain ⟨L7, hg7, ho7⟩ := O7.out
      have hne7 : g1 ≠ g := by omega
      clear O7 h0
      go_wp2_with (at_builtin; refine wpList_append_own _ rfl (.tmp 19) (.tmp 20) 22 rfl w.heap.size 3 i0 (.int .i64 0) 1 8 Try.underlying22 hi hz0 hz1 hz2 rfl (by decide) (.slice (some ⟨g1, 0, none⟩) 3 3) 3 _ rfl (ho7.alloc _) ⟨w7.heap.size, 0, none⟩ 1 1 [.int .i64 (100)] rfl rfl (cell_one_new _ _ _) (by simp [Value.oneCell']) (by unfold maxLen; omega) (by omega) (by have := S7.out.grown.size; simp; omega) ?_; intro v1 w1 hown1 hgrow1 hnil1; obtain ⟨g2, c2, rfl, hg2⟩ := own_some hown1 (fun e => nomatch (hnil1.1 e).1); have S9 := Lib.hid ((S7.out.alloc (.cells #[.int .i64 (100)] 3)).own hgrow1 hg7 hne7); have O9 : Hid (OwnC w w1 g2 (3 + 1) c2) := Lib.hid ⟨L7 ++ [100], hg2, by rw [List.map_append]; exact hown1⟩; clear hnil1 hgrow1 hown1)
      refine bodyPost_ret (results_tmp rfl _ _ _) rfl ?_
      exact ⟨g2, _, c2, rfl, by omega, O9.out, S9.out.mono (by omega)⟩
    · have n0 : (b8 == 0) = false := by simp [h0]
      have n1 : (b8 == 1) = false := by simp [h1]
      clear h0 h1
      go_wp2_with fail
      refine bodyPost_ret (results_tmp rfl _ _ _) rfl ?_
      exact ⟨g1, 3, 3, rfl, by omega, O7.out, S7.out.mono (by omega)⟩

/-- A drawn list alone. -/
def DrwM (w : World) (e : Ending) (w' : World) : Prop :=
  ∃ (g c q : Nat) (L : List Int), e = .returned (.slice (some ⟨g, 0, none⟩) q c) ∧ q ≤ 30 ∧ q ≤ c ∧ IsI6 w' w'.heap.size (some ⟨g, 0, none⟩) q L ∧ Below w.heap.size w w'
set_option maxHeartbeats 1000000 in
theorem drawMed_any {w : World} {A : Option Addr} {n : Nat} {zs : List Int} {B : Nat} (c : Nat) (h : Code_ w A n zs B) :
    Calls Try.prog 50 #[.slice A n c] w (DrwM w) := by
  have H := Lib.hid (h.start c)
  have hbs := Lib.hid (fun w' (h : (w.alloc (.cells #[.slice A n c, .int .i64 0, .int .u64 0] 85)).grownBy w' (some w.heap.size)) => below_start h)
  clear h
  go_enter Try.func50, Try.ntmps50
  go_wp2_with fail
  refine (triple_at H.out (by omega)).mono ?_
  rintro e w1 ⟨g1, q, c1, rfl, hq, ho, hs⟩
  have HO := Lib.hid ho
  have HB := Lib.hid (hbs.out _ hs.grown)
  clear ho hs H
  go_wp2_with fail
  refine bodyPost_ret (results_tmp rfl _ _ _) rfl ?_
  obtain ⟨hqc, L, hL⟩ := HO.out.isI
  exact ⟨g1, c1, q, L, rfl, by omega, hqc, hL, HB.out⟩
set_option maxHeartbeats 1000000 in
theorem drawAgr_any {w : World} {A : Option Addr} {n : Nat} {zs : List Int} {B : Nat} (c : Nat) (h : Code_ w A n zs B) :
    Calls Try.prog 83 #[.slice A n c] w (DrwS w) := by
  have H := Lib.hid (h.start c)
  have hbs := Lib.hid (fun w' (h : (w.alloc (.cells #[.slice A n c, .int .i64 0, .int .u64 0] 85)).grownBy w' (some w.heap.size)) => below_start h)
  clear h
  go_enter Try.func83, Try.ntmps83
  go_wp2_with fail
  refine (triple_at H.out (by omega)).mono ?_
  rintro e w1 ⟨g1, q, c1, rfl, hq, ho, hs⟩
  obtain ⟨r5, r50, r51, H5⟩ := hs.at H.out
  have HS := Lib.hid hs
  have HO := Lib.hid ho
  have hgl := ho.g
  simp at hgl
  clear ho hs
  go_wp2_with fail
  refine (most6_at H5 (by omega)).mono ?_
  rintro e w2 ⟨z, rfl, hs2⟩
  have HO2 := Lib.hid (HO.out.kept hs2.grown (by omega))
  have HB := Lib.hid (hbs.out _ (HS.out.grown.trans hs2.grown))
  clear hs2 HO HS H5 r50 r51
  go_wp2_with fail
  refine bodyPost_ret (results_tmp2 rfl _ _ _) rfl ?_
  obtain ⟨hqc, L, hL⟩ := HO2.out.isI
  exact ⟨g1, c1, q, L, z, rfl, by omega, hqc, hL, HB.out⟩
set_option maxHeartbeats 1000000 in
theorem drawVot_any {w : World} {A : Option Addr} {n : Nat} {zs : List Int} {B : Nat} (c : Nat) (h : Code_ w A n zs B) :
    Calls Try.prog 48 #[.slice A n c] w (DrwS w) := by
  have C := Lib.hid (drawAgr_any c h)
  clear h
  go_enter Try.func48, Try.ntmps48
  go_wp2_with fail
  refine C.out.mono ?_
  rintro e w1 ⟨g1, c1, q, L, z, rfl, h1, h2, h3, h4⟩
  have H3 := Lib.hid h3
  have H4 := Lib.hid h4
  clear h3 h4 C
  go_wp2_with fail
  refine bodyPost_ret (results_tmp2 rfl _ _ _) rfl ?_
  exact ⟨g1, c1, q, L, z, rfl, h1, h2, H3.out, H4.out⟩

/-- Drawn triples in a row of one's own. -/
def OwnS (w W : World) (g1 q c1 : Nat) : Prop := ∃ vs : List TSl, w.heap.size ≤ g1 ∧ W.ownsRow w.heap.size 22 1 (.slice (some ⟨g1, 0, none⟩) q c1) q (flatSl vs) ∧
  ∀ j, j < q → ∃ b, (vs.getD j noSl).a = some ⟨b, 0, none⟩ ∧ (vs.getD j noSl).n ≤ 4 ∧ W.ownsRow w.heap.size 3 1 (.slice (some ⟨b, 0, none⟩) (vs.getD j noSl).n (vs.getD j noSl).c) (vs.getD j noSl).n ((vs.getD j noSl).zs.map (.int .i64))
theorem OwnS.kept {w W W' : World} {g1 q c1 : Nat} {g : Nat} (h : OwnS w W g1 q c1) (hg : W.grownBy W' (some g)) (hgw : g < w.heap.size) : OwnS w W' g1 q c1 := by
  obtain ⟨vs, h1, h2, h3⟩ := h
  refine ⟨vs, h1, h2.kept hg (.inr (by simp [Value.ownBlock]; omega)), fun j hj => ?_⟩
  obtain ⟨b, e1, e2, e3⟩ := h3 j hj
  have hb := (e3.lt b rfl).1
  exact ⟨b, e1, e2, e3.kept hg (.inr (by simp [Value.ownBlock]; omega))⟩
theorem OwnS.g {w W : World} {g1 q c1 : Nat} (h : OwnS w W g1 q c1) : w.heap.size ≤ g1 := by
  obtain ⟨vs, h1, -⟩ := h
  exact h1
theorem OwnS.isS {w W : World} {g1 q c1 : Nat} (h : OwnS w W g1 q c1) : q ≤ c1 ∧ ∃ vs, IsSls W W.heap.size (some ⟨g1, 0, none⟩) q vs ∧ ∀ k, k < q → (vs.getD k noSl).n ≤ 4 := by
  obtain ⟨vs, h1, h2, h3⟩ := h
  refine ⟨?_, vs, ⟨by have := h2.1; simpa [flatSl] using this, Nat.le_refl _, ownS_has h2, fun k hk => ?_⟩, fun k hk => ?_⟩
  · rcases h2.2 with ⟨e, -⟩ | ⟨g', cap, cur, e, -, -, h4, -⟩
    · cases e
    · injection e with e1 e2 e3
      omega
  · obtain ⟨b, e1, e2, e3⟩ := h3 k hk
    refine ⟨by have := e3.1; simpa using this, by unfold maxLen; omega, ?_⟩
    rw [e1]
    exact ownS_has e3
  · obtain ⟨b, e1, e2, e3⟩ := h3 k hk
    exact e2
theorem own_ne6 {w : World} {b b' : Nat} {e e' : TypeId} {s s' : Nat} {v v' : Value} {n n' : Nat} {xs ys : List Value} (h : w.ownsRow b e s v n xs) (k : w.ownsRow b' e' s' v' n' ys) (hne : e ≠ e') : v.ownBlock = none ∨ v.ownBlock ≠ v'.ownBlock := by
  rcases h.2 with ⟨rfl, -⟩ | ⟨g, cap, cur, rfl, -, hg, -⟩
  · exact .inl rfl
  · rcases k.2 with ⟨rfl, -⟩ | ⟨g', cap', cur', rfl, -, hg', -⟩
    · exact .inr (by simp [Value.ownBlock])
    · refine .inr fun e1 => ?_
      have : g = g' := by simpa [Value.ownBlock] using e1
      subst this
      rw [hg] at hg'
      injection hg' with h1
      injection h1 with _ h2 _
      exact hne h2
/-- One more triple is put behind the drawn ones. -/
theorem OwnS.more {w W W1 : World} {g1 q c1 g2 c2 b n' c' : Nat} {vs : List TSl} {zs : List Int} (hq : vs.length = q)
    (h3 : ∀ j, j < q → ∃ b, (vs.getD j noSl).a = some ⟨b, 0, none⟩ ∧ (vs.getD j noSl).n ≤ 4 ∧ W.ownsRow w.heap.size 3 1 (.slice (some ⟨b, 0, none⟩) (vs.getD j noSl).n (vs.getD j noSl).c) (vs.getD j noSl).n ((vs.getD j noSl).zs.map (.int .i64)))
    (hb : W.ownsRow w.heap.size 3 1 (.slice (some ⟨b, 0, none⟩) n' c') n' (zs.map (.int .i64))) (hn : n' ≤ 4) (ho : W.ownsRow w.heap.size 22 1 (.slice (some ⟨g1, 0, none⟩) q c1) q (flatSl vs))
    (hg2 : w.heap.size ≤ g2) (hgrow : W.grownBy W1 (Value.slice (some ⟨g1, 0, none⟩) q c1).ownBlock) (hown1 : W1.ownsRow w.heap.size 22 1 (.slice (some ⟨g2, 0, none⟩) (q + 1) c2) (q + 1) (flatSl vs ++ [.slice (some ⟨b, 0, none⟩) n' c'])) : OwnS w W1 g2 (q + 1) c2 := by
  refine ⟨vs ++ [⟨some ⟨b, 0, none⟩, n', c', zs⟩], hg2, by simpa [flatSl] using hown1, fun j hj => ?_⟩
  rcases Nat.lt_succ_iff_lt_or_eq.1 hj with h1 | rfl
  · rw [List.getD_eq_getElem?_getD, List.getElem?_append_left (by omega), ← List.getD_eq_getElem?_getD]
    obtain ⟨b', e1, e2, e3⟩ := h3 j h1
    exact ⟨b', e1, e2, e3.kept hgrow (own_ne6 e3 ho (by decide))⟩
  · rw [List.getD_eq_getElem?_getD, List.getElem?_append_right (by omega), hq, Nat.sub_self]
    exact ⟨b, rfl, hn, hb.kept hgrow (own_ne6 hb ho (by decide))⟩

/-- Drawn triples and a drawn number. -/
def DrwSS (w : World) (e : Ending) (w' : World) : Prop :=
  ∃ (g c q : Nat) (vs : List TSl) (z : Int), e = .returned (.tuple #[.slice (some ⟨g, 0, none⟩) q c, .int .i64 z]) ∧ q ≤ 30 ∧ (∀ k, k < q → (vs.getD k noSl).n ≤ 4) ∧ IsSls w' w'.heap.size (some ⟨g, 0, none⟩) q vs ∧ Below w.heap.size w w'
end Go.Proofs.Yteeljlpbijmhlaa
