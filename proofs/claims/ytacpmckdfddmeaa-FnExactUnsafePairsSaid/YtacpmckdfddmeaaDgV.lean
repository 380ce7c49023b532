/- Chapter 7: IsSafeRow; rows of pairs compared, marked, held. -/
import Derived.Test.YtacpmckdfddmeaaDgU
namespace Go.Proofs.Ytacpmckdfddmeaa
open Go.RowKit Go.PlainAid Go.Sort
set_option linter.unusedVariables false
set_option linter.unusedSimpArgs false

/-- What IsSafeRow answers. -/
def SafeA (vs : List TCargo) (cs : List Int) (R x : Bool) : Prop := ∃ L, UnsA vs cs L x ∧ R = (x && decide (L.length = 0))
theorem safeA_ex (vs : List TCargo) (cs : List Int) : ∃ R x, SafeA vs cs R x := by
  obtain ⟨L, x, h⟩ := unsA_ex vs cs
  exact ⟨_, x, L, h, rfl⟩
theorem numsPr_len (M : List TPr) : (numsPr M).length = M.length := by simp [numsPr]
set_option maxHeartbeats 2000000 in
theorem safeI_any {w : World} {B B2 : Nat} {A A2 : Option Addr} {n n2 : Nat} {vs : List TCargo} {cs : List Int} (c c2 : Nat) (h : IsCargos w B A n vs) (hm : n ≤ 1048576) (hnc : n ≤ c) (hl : cs.length = n2) (hm2 : n2 ≤ 1048576) (hB2 : B2 ≤ w.heap.size) (h2 : Has w B2 A2 (cs.map (.int .i64))) (R x : Bool) (hA : SafeA vs cs R x) :
    Calls Try.prog 23 #[.slice A n c, .slice A2 n2 c2] w fun e w' => e = .returned (.tuple #[.bool R, .bool x]) ∧ Below w.heap.size w w' := by
  obtain ⟨L, hU, hRx⟩ := hA
  have C := Lib.hid (unsI_any c c2 h hm hnc hl hm2 hB2 h2 L x hU)
  have HR := Lib.hid hRx
  clear hU hRx h h2
  go_enter Try.func23, Try.ntmps23
  go_wp2_with fail
  refine C.out.mono ?_
  rintro e w1 ⟨g, c', M, rfl, hL, hown, hea, hb⟩
  have HB := Lib.hid hb
  obtain ⟨m, hm9⟩ : ∃ m, M.length = m := ⟨_, rfl⟩
  have HL : Hid (m = L.length) := Lib.hid (by rw [← hL, numsPr_len, hm9])
  simp only [hm9]
  clear hm9 hL hown hea hb C
  cases x with
  | false =>
    obtain rfl : R = false := HR.out
    clear HR
    go_wp2_with fail
    refine bodyPost_ret (results_tmp2 rfl _ _ _) rfl ?_
    exact ⟨rfl, HB.out⟩
  | true =>
    by_cases h0 : m = 0
    · subst h0
      obtain rfl : R = true := by rw [HR.out, ← HL.out]; simp
      clear HR HL
      go_wp2_with fail
      refine bodyPost_ret (results_tmp2 rfl _ _ _) rfl ?_
      exact ⟨rfl, HB.out⟩
    · have hb0 : ((m : Int) == 0) = false := by simp; omega
      obtain rfl : R = false := by rw [HR.out, ← HL.out]; simp [h0]
      clear HR HL h0
      go_wp2_with fail
      refine bodyPost_ret (results_tmp2 rfl _ _ _) rfl ?_
      exact ⟨rfl, HB.out⟩
set_option maxHeartbeats 2000000 in
theorem safeS_any {w : World} {B B2 : Nat} {A A2 : Option Addr} {n n2 : Nat} {vs : List TCargo} {cs : List Int} (c c2 : Nat) (h : IsCargos w B A n vs) (hm : n ≤ 1048576) (hl : cs.length = n2) (hm2 : n2 ≤ 1048576) (hB2 : B2 ≤ w.heap.size) (h2 : Has w B2 A2 (cs.map (.int .i64))) (R x : Bool) (hA : SafeA vs cs R x) :
    Calls Try.prog 28 #[.slice A n c, .slice A2 n2 c2] w fun e w' => e = .returned (.tuple #[.bool R, .bool x]) ∧ Below w.heap.size w w' := by
  obtain ⟨L, hU, hRx⟩ := hA
  obtain ⟨S, hS⟩ := okP_dec vs cs
  have C := Lib.hid (l7Cells_any c c2 h hm hl hm2 hB2 h2 S hS)
  have HI := Lib.hid h
  have H2 := Lib.hid h2
  have HS := Lib.hid hS
  have HA := Lib.hid hU
  have HR := Lib.hid hRx
  have HLL := Lib.hid hl
  clear h h2 hS hU hRx hl
  go_enter Try.func28, Try.ntmps28
  go_wp2_with fail
  refine C.out.mono ?_
  rintro e w1 ⟨rfl, hb⟩
  have HB1 := Lib.hid hb
  clear hb C
  cases S with
  | false =>
    obtain ⟨rfl, rfl⟩ := HA.out.2 (fun k => by have := HS.out.2 k; cases this)
    obtain rfl : R = false := HR.out
    clear HA HS HR
    go_wp2_with fail
    refine bodyPost_ret (results_tmp2 rfl _ _ _) rfl ?_
    exact ⟨rfl, HB1.out⟩
  | true =>
    have hok := HS.out.1 rfl
    obtain ⟨hL, rfl⟩ := HA.out.1 hok
    obtain rfl : n2 = n := by rw [← HLL.out, hok.2.1, HI.out.len]
    have CP := Lib.hid (l7Pairs_any c c2 (HI.out.below HB1.out HI.out.low) hok (Nat.le_trans hB2 HB1.out.size) (H2.out.below (HB1.out.mono hB2)))
    have HLA := Lib.hid hL
    clear HA HS hok hL
    go_wp2_with fail
    refine CP.out.mono ?_
    rintro e w2 ⟨v, rfl, hP⟩
    have hb2 : Below w1.heap.size w1 w2 := by obtain ⟨_, _, _, -, -, -, -, -, -, h⟩ := hP; exact h
    have HB := Lib.hid (HB1.out.trans (hb2.mono HB1.out.size))
    obtain ⟨g0, cp, M, hv, q1, q2, q3, q4⟩ := hP.gives HI.out.len HLA.out
    obtain ⟨m, hm9⟩ : ∃ m, M.length = m := ⟨_, rfl⟩
    have HL : Hid (m = L.length) := Lib.hid (by rw [← q1, numsPr_len, hm9])
    have hv' : v = .slice (some ⟨g0, 0, none⟩) m cp := by
      injection hv with hv
      injection hv with hv
      simp only [Array.mk.injEq, List.cons.injEq] at hv
      rw [hv.1, hm9]
    clear hP CP hb2 hv hm9 q1 q2 q3 q4 HB1
    subst hv'
    obtain ⟨x, hx⟩ : ∃ x, x = true := ⟨_, rfl⟩
    by_cases h0 : m = 0
    · subst h0
      obtain rfl : R = true := by rw [HR.out, ← HL.out]; simp
      clear HR HL
      go_wp2_with fail
      refine bodyPost_ret (results_tmp2 rfl _ _ _) rfl ?_
      exact ⟨rfl, HB.out⟩
    · have hb0 : ((m : Int) == 0) = false := by simp; omega
      obtain rfl : R = false := by rw [HR.out, ← HL.out]; simp [h0]
      clear HR HL h0
      go_wp2_with fail
      refine bodyPost_ret (results_tmp2 rfl _ _ _) rfl ?_
      exact ⟨rfl, HB.out⟩

theorem BoxI.own {W : World} {g base : Nat} {x y : Int} (h : BoxI W g x y) (hb : base ≤ g) : W.ownsRow base 3 1 (.slice (some ⟨g, 0, none⟩) 2 2) 2 [.int .i64 x, .int .i64 y] :=
  ⟨rfl, .inr ⟨g, 2, _, rfl, hb, h, Nat.le_refl _, by unfold maxLen; omega, rfl, rfl⟩⟩
theorem own_boxI {W : World} {g base : Nat} {x y : Int} (h : W.ownsRow base 3 1 (.slice (some ⟨g, 0, none⟩) 2 2) 2 [.int .i64 x, .int .i64 y]) : BoxI W g x y := by
  rcases h.2 with ⟨e, -⟩ | ⟨g', cap, cur, hv, -, hbk, -, -, hs, ht⟩
  · cases e
  · cases hv
    unfold BoxI
    rw [hbk]
    obtain ⟨L⟩ := cur
    have hL : L = [.int .i64 x, .int .i64 y] := by
      have h2 : L.length = 2 := by simpa using hs
      rw [List.take_of_length_le (by simp; omega)] at ht
      exact ht
    rw [hL]
/-- The pairs with the numbers from m on. -/
def mkPr : Int → List TPr → List TPr
  | _, [] => []
  | m, p :: t => ⟨p.g, m, m + 1⟩ :: mkPr (m + 2) t
theorem mkPr_len : ∀ (m : Int) (M : List TPr), (mkPr m M).length = M.length
  | _, [] => rfl
  | m, p :: t => by simp [mkPr, mkPr_len (m + 2) t]
theorem mkPr_val : ∀ (m : Int) (M : List TPr), (mkPr m M).map valPr = M.map valPr
  | _, [] => rfl
  | m, p :: t => by simp [mkPr, mkPr_val (m + 2) t]
theorem mkPr_at : ∀ (m : Int) (M : List TPr) (k : Nat), k < M.length → (mkPr m M).getD k noPr = ⟨(M.getD k noPr).g, m + 2 * k, m + 2 * k + 1⟩
  | _, [], k, h => absurd h (by simp)
  | m, p :: t, 0, _ => by simp [mkPr]
  | m, p :: t, k + 1, h => by
    have ih := mkPr_at (m + 2) t k (by simpa using h)
    simp only [mkPr, List.getD_cons_succ]
    rw [ih]
    congr 1 <;> push_cast <;> omega
/-- Pairs in memory, whose first k have the numbers from m on. -/
def halfPr (m : Int) (M : List TPr) (k : Nat) : List TPr := (mkPr m M).take k ++ M.drop k
theorem halfPr_next {m : Int} {M : List TPr} {k : Nat} (h : k < M.length) : halfPr m M (k + 1) = (mkPr m M).take k ++ ⟨(M.getD k noPr).g, m + 2 * k, m + 2 * k + 1⟩ :: M.drop (k + 1) := by
  unfold halfPr
  rw [List.take_succ_eq_append_getElem (by rw [mkPr_len]; exact h), List.append_assoc, ← getPr (by rw [mkPr_len]; exact h), mkPr_at m M k h]
  rfl
theorem halfPr_here {m : Int} {M : List TPr} {k : Nat} (h : k < M.length) : halfPr m M k = (mkPr m M).take k ++ M.getD k noPr :: M.drop (k + 1) := by
  unfold halfPr
  rw [List.drop_eq_getElem_cons h, getPr h]
/-- One pair turns. -/
theorem EachPr.turn {base : Nat} {W W' : World} {A B : List TPr} {p q : TPr} (h : EachPr base W (A ++ p :: B)) (hg : W.grownBy W' (some p.g)) (hq : q.g = p.g) (hb : BoxI W' q.g q.x q.y) : EachPr base W' (A ++ q :: B) := by
  have hd := (List.perm_middle.pairwise_iff (fun {a b : TPr} (h : a.g ≠ b.g) => Ne.symm h)).1 h.dif
  refine ⟨fun r hr => ?_, ?_⟩
  · have key : ∀ r ∈ A ++ B, base ≤ r.g ∧ BoxI W' r.g r.x r.y := fun r hr => by
      have h1 := h.box r ((List.mem_append.1 hr).elim (fun h => List.mem_append_left _ h) (fun h => List.mem_append_right _ (List.mem_cons_of_mem _ h)))
      refine ⟨h1.1, h1.2.kept hg (fun e => ?_)⟩
      exact (List.pairwise_cons.1 hd).1 r hr (Option.some.inj e).symm
    rcases List.mem_append.1 hr with h1 | h1
    · exact key r (List.mem_append_left _ h1)
    · rcases List.mem_cons.1 h1 with rfl | h1
      · exact ⟨by rw [hq]; exact (h.box p (by simp)).1, hb⟩
      · exact key r (List.mem_append_right _ h1)
  · refine (List.perm_middle.pairwise_iff (fun {a b} h => Ne.symm h)).2 (List.pairwise_cons.2 ⟨fun r hr => ?_, (List.pairwise_cons.1 hd).2⟩)
    rw [hq]
    exact (List.pairwise_cons.1 hd).1 r hr

theorem own_under {W W' : World} {b B e z g n c : Nat} {xs : List Value} (h : W.ownsRow b e z (.slice (some ⟨g, 0, none⟩) n c) n xs) (hb : Below B W W') (hg : g < B) : W'.ownsRow b e z (.slice (some ⟨g, 0, none⟩) n c) n xs := by
  refine ⟨h.1, ?_⟩
  rcases h.2 with ⟨e1, -⟩ | ⟨g', cap, cur, hv, h1, h2, h3⟩
  · cases e1
  · cases hv
    exact .inr ⟨g, c, cur, rfl, h1, (hb.block g hg).trans h2, h3⟩
theorem EachPr.under {base B : Nat} {W W' : World} {M : List TPr} (h : EachPr base W M) (hb : Go.RowKit.Below B W W') (hl : ∀ p ∈ M, p.g < B) : EachPr base W' M :=
  ⟨fun p hp => ⟨(h.box p hp).1, (hb.block p.g (hl p hp)).trans (h.box p hp).2⟩, h.dif⟩
set_option maxHeartbeats 2000000 in
theorem eqPr_same {W : World} {b b1 b2 b3 g1 c1 g2 c2 : Nat} {M N : List TPr} (h1 : W.ownsRow b 26 1 (.slice (some ⟨g1, 0, none⟩) M.length c1) M.length (M.map valPr)) (e1 : EachPr b1 W M)
    (h2 : W.ownsRow b2 26 1 (.slice (some ⟨g2, 0, none⟩) N.length c2) N.length (N.map valPr)) (e2 : EachPr b3 W N) (hn : numsPr M = numsPr N) (hm : M.length ≤ 1000) :
    Calls Try.prog 48 #[.slice (some ⟨g1, 0, none⟩) M.length c1, .slice (some ⟨g2, 0, none⟩) N.length c2] W fun e w' => e = .returned (.bool true) ∧ Below W.heap.size W w' := by
  have hNM : N.length = M.length := by rw [← numsPr_len N, ← hn, numsPr_len]
  have HP1 := Lib.hid (fun k (hk : k < M.length) => ownPr_cell h1 hk)
  have HP2 := Lib.hid (fun k (hk : k < N.length) => ownPr_cell h2 hk)
  have HX := Lib.hid (fun k (hk : k < M.length) => e1.box (M.getD k noPr) (by rw [getPr hk]; exact List.getElem_mem _))
  have HY := Lib.hid (fun k (hk : k < N.length) => e2.box (N.getD k noPr) (by rw [getPr hk]; exact List.getElem_mem _))
  have HS := Lib.hid (fun k (hk : k < M.length) => show (M.getD k noPr).x = (N.getD k noPr).x ∧ (M.getD k noPr).y = (N.getD k noPr).y from by
    have a := numsPr_at hk
    have b := numsPr_at (M := N) (k := k) (by omega)
    rw [hn, b] at a
    injection a with a
    injection a with a1 a2
    exact ⟨a1.symm, a2.symm⟩)
  rw [hNM] at HP2 HY ⊢
  obtain ⟨n, hn9⟩ : ∃ n, M.length = n := ⟨_, rfl⟩
  rw [hn9] at HP1 HP2 HX HY HS hm ⊢
  clear h1 e1 h2 e2 hn hNM hn9
  go_enter Try.func48, Try.ntmps48
  go_wp2_with fail
  go_loopw [5] (fun i wr => ∃ k : Nat, k ≤ n ∧ i = .int .i64 k ∧ Below W.heap.size W wr) (fun i _ => n - (intOf i).toNat)
  case atStart => exact ⟨0, Nat.zero_le _, rfl, Below.refl _ _⟩
  case round =>
    obtain ⟨k, hk, rfl, hb⟩ := hrel
    have HB := Lib.hid hb
    by_cases hlt : k < n
    · have p1 := HP1.out k hlt
      have p2 := HP2.out k hlt
      have q1 := (hb.cell (World.block_lt_of_cell? _ _ p1)).trans p1
      have q2 := (hb.cell (World.block_lt_of_cell? _ _ p2)).trans p2
      have x1 := (HX.out k hlt).2.all hb
      have y1 := (HY.out k hlt).2.all hb
      have hs := HS.out k hlt
      generalize M.getD k noPr = p at q1 x1 hs
      generalize N.getD k noPr = r at q2 y1 hs
      obtain ⟨pg, px, py⟩ := p
      obtain ⟨rg, rx, ry⟩ := r
      obtain ⟨hs1, hs2⟩ := hs
      dsimp only [valPr] at q1 q2 x1 y1 hs1 hs2
      subst hs1 hs2
      have C : Hid (∀ V, Below wr.heap.size wr V → Calls Try.prog 43 #[.slice (some ⟨pg, 0, none⟩) 2 2, .slice (some ⟨rg, 0, none⟩) 2 2] V fun e w' => e = .returned (.bool true) ∧ Below V.heap.size V w') := Lib.hid (fun V hV =>
        (eqI_same _ _ 2 2 2 _ _ [px, py] V rfl (by unfold maxLen; omega) (x1.all hV).has (y1.all hV).has).mono fun _ _ ⟨a, b⟩ => ⟨a, b.below _⟩)
      have c1 := fun (dr : Nat) (os : Array Obj) => Calls.regrown_of (w := wr) (d := dr) (os := os) (C.out _ (below_regrown wr dr os))
      have E1 := fun (d : Nat) (os : Array Obj) => cell_regrown q1 d os
      have E2 := fun (d : Nat) (os : Array Obj) => cell_regrown q2 d os
      have hk0 : (0 : Int) ≤ (k : Int) := by omega
      have hk1 : (k : Int) < (n : Int) := by omega
      clear p1 p2 q1 q2 x1 y1 C hb
      go_wp2_with fail
      refine wp_region_quiet_below (by kernel_rfl) (by kernel_rfl) ?_
      repeat (go_big_quiet_step (first | exact c1 _ _))
      refine wpQuiet_nil ?_
      intro _ hw'
      obtain ⟨⟨dq, osq⟩, hw''⟩ := hw'
      subst hw''
      have HB1 := Lib.hid (HB.out.trans ((below_regrown wr dq osq).mono HB.out.size))
      clear E1 E2 c1
      go_wp2_with fail
      go_roundw
      case rel => exact ⟨k + 1, by omega, by go_num, HB1.out⟩
      case measure => simp [intOf]; omega
    · obtain rfl : k = n := by omega
      clear hb HX HY HS HP1 HP2
      go_wp2_with fail
      go_ret
      exact ⟨rfl, HB.out⟩
set_option maxHeartbeats 2000000 in
theorem markPr_any {w : World} {b b1 g c : Nat} {M : List TPr} (m : Int) (hm0 : 0 < m) (hm1 : m ≤ 1000) (hm : M.length ≤ 1000) (h1 : w.ownsRow b 26 1 (.slice (some ⟨g, 0, none⟩) M.length c) M.length (M.map valPr)) (e1 : EachPr b1 w M) :
    Calls Try.prog 49 #[.slice (some ⟨g, 0, none⟩) M.length c, .int .i64 m] w fun e w' => e = .returned (.int .i64 (m + 2 * M.length)) ∧
      w'.ownsRow b 26 1 (.slice (some ⟨g, 0, none⟩) M.length c) M.length (M.map valPr) ∧ EachPr b1 w' (mkPr m M) ∧ Below b1 w w' := by
  obtain ⟨n, hn9⟩ : ∃ n, M.length = n := ⟨_, rfl⟩
  have HN := Lib.hid hn9
  rw [hn9] at h1 hm ⊢
  have HO := Lib.hid h1
  have HE : Hid (EachPr b1 w (halfPr m M 0)) := Lib.hid (by simpa [halfPr] using e1)
  have CM := Lib.hid (fun g2 base m xs W h0 h1 ho => markI_any g2 2 2 base m xs W h0 h1 ho)
  clear h1 e1 hn9
  go_enter Try.func49, Try.ntmps49
  go_wp2_with fail
  go_loopw [1, 5] (fun q i wr => ∃ k : Nat, k ≤ n ∧ i = .int .i64 k ∧ q = .int .i64 (m + 2 * k) ∧ Hid (wr.ownsRow b 26 1 (.slice (some ⟨g, 0, none⟩) n c) n (M.map valPr)) ∧ Hid (EachPr b1 wr (halfPr m M k)) ∧ Below b1 w wr) (fun _ i _ => n - (intOf i).toNat)
  case atStart => exact ⟨0, Nat.zero_le _, rfl, by simp, HO, HE, Below.refl _ _⟩
  case round =>
    clear HO HE
    obtain ⟨k, hk, rfl, rfl, HO, HE, hb⟩ := hrel
    have HB := Lib.hid hb
    by_cases hlt : k < n
    · have hlt' : k < M.length := by rw [HN.out]; exact hlt
      have p1 := ownPr_cell HO.out hlt
      have HEh : Hid (EachPr b1 wr ((mkPr m M).take k ++ M.getD k noPr :: M.drop (k + 1))) := Lib.hid (by rw [← halfPr_here hlt']; exact HE.out)
      have HNX := Lib.hid (halfPr_next (m := m) hlt')
      generalize M.getD k noPr = p at p1 HEh HNX
      obtain ⟨pg, px, py⟩ := p
      have hbx := HEh.out.box ⟨pg, px, py⟩ (by simp)
      have hgne := hbx.2.ne HO.out (by decide)
      dsimp only [valPr] at p1 hbx hgne
      have CK := Lib.hid (CM.out pg b1 (m + 2 * (k : Int)) _ wr (by omega) (by omega) (hbx.2.own hbx.1))
      have hk0 : (0 : Int) ≤ (k : Int) := by omega
      have hk1 : (k : Int) < (n : Int) := by omega
      have hpg := hbx.1
      clear hb HE CM hbx
      go_wp2_with fail
      refine CK.out.mono ?_
      rintro e w2 ⟨rfl, ho2, hgr⟩
      have hbx2 : BoxI w2 pg (m + 2 * k) (m + 2 * k + 1) := own_boxI (base := b1) (by simpa [nums, List.range, List.range.loop] using ho2)
      have HE2 : Hid (EachPr b1 w2 (halfPr m M (k + 1))) := Lib.hid (by rw [HNX.out]; exact HEh.out.turn hgr rfl hbx2)
      have HO2 := Lib.hid (HO.out.kept hgr (.inr (by simp [Value.ownBlock]; omega)))
      have HB2 := Lib.hid (HB.out.trans (show Below b1 wr w2 from ⟨hgr.os, hgr.tape, hgr.output, hgr.size, fun j hj => hgr.block j (by have := HEh.out.box _ (List.mem_append_right _ List.mem_cons_self); have h2 := this.2.lt; have h3 := this.1; simp at h2 h3; omega) (fun e => by have := Option.some.inj e; omega)⟩))
      clear ho2 hgr hbx2 HEh HNX HO HB CK p1
      go_wp2_with fail
      go_roundw
      case rel => exact ⟨k + 1, by omega, by go_num, by congr 1; push_cast; omega, HO2, HE2, HB2.out⟩
      case measure => simp [intOf]; omega
    · obtain rfl : k = n := by omega
      have HF : Hid (EachPr b1 wr (mkPr m M)) := Lib.hid (by
        have := HE.out
        unfold halfPr at this
        rwa [List.take_of_length_le (by rw [mkPr_len, HN.out]; exact Nat.le_refl _), List.drop_of_length_le (by rw [HN.out]; exact Nat.le_refl _), List.append_nil] at this)
      clear hb HE CM
      go_wp2_with fail
      go_ret
      exact ⟨rfl, HO.out, HF.out, HB.out⟩
set_option maxHeartbeats 2000000 in
theorem heldPr_any {w : World} {b b1 g c : Nat} {M : List TPr} (m : Int) (hm0 : 0 < m) (hm1 : m ≤ 1000) (hm : M.length ≤ 1000) (h1 : w.ownsRow b 26 1 (.slice (some ⟨g, 0, none⟩) M.length c) M.length (M.map valPr)) (e1 : EachPr b1 w (mkPr m M)) :
    Calls Try.prog 50 #[.slice (some ⟨g, 0, none⟩) M.length c, .int .i64 m] w fun e w' => e = .returned (.int .i64 (m + 2 * M.length)) ∧ w = w' := by
  obtain ⟨n, hn9⟩ : ∃ n, M.length = n := ⟨_, rfl⟩
  have HP := Lib.hid (fun k (hk : k < n) => ownPr_cell (hn9 ▸ h1) hk)
  have HX := Lib.hid (fun k (hk : k < n) => show BoxI w (M.getD k noPr).g (m + 2 * k) (m + 2 * k + 1) from by
    have hk' : k < M.length := by omega
    have := (e1.box ((mkPr m M).getD k noPr) (by rw [getPr (by rw [mkPr_len]; exact hk')]; exact List.getElem_mem _)).2
    rwa [mkPr_at m M k hk'] at this)
  have CH := Lib.hid (fun g2 m W h0 h1 (h : BoxI W g2 m (m + 1)) => heldI_any (some ⟨g2, 0, none⟩) 2 2 W.heap.size m W h0 h1 (by simpa [nums, List.range, List.range.loop] using h.has))
  rw [hn9] at hm ⊢
  clear h1 e1 hn9
  go_enter Try.func50, Try.ntmps50
  go_wp2_with fail
  go_loop [1, 5] (fun q i => ∃ k : Nat, k ≤ n ∧ i = .int .i64 k ∧ q = .int .i64 (m + 2 * k)) (fun _ i => n - (intOf i).toNat)
  case atStart => exact ⟨0, Nat.zero_le _, rfl, by simp⟩
  case round =>
    obtain ⟨k, hk, rfl, rfl⟩ := hrel
    by_cases hlt : k < n
    · have p1 := HP.out k hlt
      have C := Lib.hid (CH.out _ _ w (by omega) (by omega) (HX.out k hlt))
      generalize M.getD k noPr = p at p1 C
      obtain ⟨pg, px, py⟩ := p
      dsimp only [valPr] at p1 C
      have hk0 : (0 : Int) ≤ (k : Int) := by omega
      have hk1 : (k : Int) < (n : Int) := by omega
      have hneg : ¬ (m + 2 * (k : Int) + 2 < 0) := by omega
      clear CH HX HP
      go_wp2_with fail
      refine C.out.mono ?_
      rintro e w2 ⟨rfl, rfl⟩
      clear C
      go_wp2_with fail
      go_round
      case rel => exact ⟨k + 1, by omega, by go_num, by congr 1; push_cast; omega⟩
      case measure => simp [intOf]; omega
    · obtain rfl : k = n := by omega
      clear CH HX HP
      go_wp2_with fail
      go_ret
      exact ⟨rfl, rfl⟩
end Go.Proofs.Ytacpmckdfddmeaa
