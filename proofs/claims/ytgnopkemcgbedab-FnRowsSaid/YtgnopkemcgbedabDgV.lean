/- Chapter 7: IsSafeRow; rows of pairs compared, marked, held. -/
import Derived.Test.YtgnopkemcgbedabDgU
namespace Go.Proofs.Ytgnopkemcgbedab
open Go.RowKit Go.PlainAid Go.Sort
set_option linter.unusedVariables false
set_option linter.unusedSimpArgs false

/-- What IsSafeRow answers. -/
def SafeA (vs : List TCargo) (cs : List Int) (R x : Bool) : Prop := ∃ L, UnsA vs cs L x ∧ R = (x && decide (L.length = 0))
theorem safeA_ex (vs : List TCargo) (cs : List Int) : ∃ R x, SafeA vs cs R x := by
  obtain ⟨L, x, h⟩ := unsA_ex vs cs
  exact ⟨_, x, L, h, rfl⟩
theorem numsPr_len (M : List TPr) : (numsPr M).length = M.length := by simp [numsPr]
set_option maxHeartbeats 2000000 in
theorem safeI_any {w : World} {B B2 : Nat} {A A2 : Option Addr} {n n2 : Nat} {vs : List TCargo} {cs : List Int} (c c2 : Nat) (h : IsCargos w B A n vs) (hm : n ≤ 1048576) (hnc : n ≤ c) (hl : cs.length = n2) (hm2 : n2 ≤ 1048576) (hB2 : B2 ≤ w.heap.size) (h2 : Has w B2 A2 (cs.map (.int .i64))) (R x : Bool) (hA : SafeA vs cs R x) :
    Calls Try.prog 33 #[.slice A n c, .slice A2 n2 c2] w fun e w' => e = .returned (.tuple #[.bool R, .bool x]) ∧ Below w.heap.size w w' := by
  obtain ⟨L, hU, hRx⟩ := hA
  have C := Lib.hid (unsI_any c c2 h hm hnc hl hm2 hB2 h2 L x hU)
  have HR := Lib.hid hRx
  clear hU hRx h h2
  go_enter Try.func33, Try.ntmps33
  go_wp2_with fail
  refine C.out.mono ?_
  rintro e w1 ⟨g, c', M, rfl, hL, hown, hea, hb⟩
  have HB := Lib.hid hb
  obtain ⟨m, hm9⟩ : ∃ m, M.length = m := ⟨_, rfl⟩
  have HL : Hid (m = L.length) := Lib.hid (by rw [← hL, numsPr_len, hm9])
  simp only [hm9]
  clear hm9 hL hown hea hb C
  cases x with
  | false =>
    obtain rfl : R = false := HR.out
    clear HR
    go_wp2_with fail
    refine bodyPost_ret (results_tmp2 rfl _ _ _) rfl ?_
    exact ⟨rfl, HB.out⟩
  | true =>
    by_cases h0 : m = 0
    · subst h0
      obtain rfl : R = true := by rw [HR.out, ← HL.out]; simp
      clear HR HL
      go_wp2_with fail
      refine bodyPost_ret (results_tmp2 rfl _ _ _) rfl ?_
      exact ⟨rfl, HB.out⟩
    · have hb0 : ((m : Int) == 0) = false := by simp; omega
      obtain rfl : R = false := by rw [HR.out, ← HL.out]; simp [h0]
      clear HR HL h0
      go_wp2_with fail
      refine bodyPost_ret (results_tmp2 rfl _ _ _) rfl ?_
      exact ⟨rfl, HB.out⟩
set_option maxHeartbeats 2000000 in
theorem safeS_any {w : World} {B B2 : Nat} {A A2 : Option Addr} {n n2 : Nat} {vs : List TCargo} {cs : List Int} (c c2 : Nat) (h : IsCargos w B A n vs) (hm : n ≤ 1048576) (hl : cs.length = n2) (hm2 : n2 ≤ 1048576) (hB2 : B2 ≤ w.heap.size) (h2 : Has w B2 A2 (cs.map (.int .i64))) (R x : Bool) (hA : SafeA vs cs R x) :
    Calls Try.prog 38 #[.slice A n c, .slice A2 n2 c2] w fun e w' => e = .returned (.tuple #[.bool R, .bool x]) ∧ Below w.heap.size w w' := by
  obtain ⟨L, hU, hRx⟩ := hA
  obtain ⟨S, hS⟩ := okP_dec vs cs
  have C := Lib.hid (l7Cells_any c c2 h hm hl hm2 hB2 h2 S hS)
  have HI := Lib.hid h
  have H2 := Lib.hid h2
  have HS := Lib.hid hS
  have HA := Lib.hid hU
  have HR := Lib.hid hRx
  have HLL := Lib.hid hl
  clear h h2 hS hU hRx hl
  go_enter Try.func38, Try.ntmps38
  go_wp2_with fail
  refine C.out.mono ?_
  rintro e w1 ⟨rfl, hb⟩
  have HB1 := Lib.hid hb
  clear hb C
  cases S with
  | false =>
    obtain ⟨rfl, rfl⟩ := HA.out.2 (fun k => by have := HS.out.2 k; cases this)
    obtain rfl : R = false := HR.out
    clear HA HS HR
    go_wp2_with fail
    refine bodyPost_ret (results_tmp2 rfl _ _ _) rfl ?_
    exact ⟨rfl, HB1.out⟩
  | true =>
    have hok := HS.out.1 rfl
    obtain ⟨hL, rfl⟩ := HA.out.1 hok
    obtain rfl : n2 = n := by rw [← HLL.out, hok.2.1, HI.out.len]
    have CP := Lib.hid (l7Pairs_any c c2 (HI.out.below HB1.out HI.out.low) hok (Nat.le_trans hB2 HB1.out.size) (H2.out.below (HB1.out.mono hB2)))
    have HLA := Lib.hid hL
    clear HA HS hok hL
    go_wp2_with fail
    refine CP.out.mono ?_
    rintro e w2 ⟨v, rfl, hP⟩
    have hb2 : Below w1.heap.size w1 w2 := by obtain ⟨_, _, _, -, -, -, -, -, -, h⟩ := hP; exact h
    have HB := Lib.hid (HB1.out.trans (hb2.mono HB1.out.size))
    obtain ⟨g0, cp, M, hv, q1, q2, q3, q4⟩ := hP.gives HI.out.len HLA.out
    obtain ⟨m, hm9⟩ : ∃ m, M.length = m := ⟨_, rfl⟩
    have HL : Hid (m = L.length) := Lib.hid (by rw [← q1, numsPr_len, hm9])
    have hv' : v = .slice (some ⟨g0, 0, none⟩) m cp := by
      injection hv with hv
      injection hv with hv
      simp only [Array.mk.injEq, List.cons.injEq] at hv
      rw [hv.1, hm9]
    clear hP CP hb2 hv hm9 q1 q2 q3 q4 HB1
    subst hv'
    obtain ⟨x, hx⟩ : ∃ x, x = true := ⟨_, rfl⟩
    by_cases h0 : m = 0
    · subst h0
      obtain rfl : R = true := by rw [HR.out, ← HL.out]; simp
      clear HR HL
      go_wp2_with fail
      refine bodyPost_ret (results_tmp2 rfl _ _ _) rfl ?_
      exact ⟨rfl, HB.out⟩
    · have hb0 : ((m : Int) == 0) = false := by simp; omega
      obtain rfl : R = false := by rw [HR.out, ← HL.out]; simp [h0]
      clear HR HL h0
      go_wp2_with fail
      refine bodyPost_ret (results_tmp2 rfl _ _ _) rfl ?_
      exact ⟨rfl, HB.out⟩

theorem BoxI.own {W : World} {g base : Nat} {x y : Int} (h : BoxI W g x y) (hb : base ≤ g) : W.ownsRow base 3 1 (.slice (some ⟨g, 0, none⟩) 2 2) 2 [.int .i64 x, .int .i64 y] :=
  ⟨rfl, .inr ⟨g, 2, _, rfl, hb, h, Nat.le_refl _, by unfold maxLen; omega, rfl, rfl⟩⟩
theorem own_boxI {W : World} {g base : Nat} {x y : Int} (h : W.ownsRow base 3 1 (.slice (some ⟨g, 0, none⟩) 2 2) 2 [.int .i64 x, .int .i64 y]) : BoxI W g x y := by
  rcases h.2 with ⟨e, -⟩ | ⟨g', cap, cur, hv, -, hbk, -, -, hs, ht⟩
  · cases e
  · cases hv
    unfold BoxI
    rw [hbk]
    obtain ⟨L⟩ := cur
    have hL : L = [.int .i64 x, .int .i64 y] := by
      have h2 : L.length = 2 := by simpa using hs
      rw [List.take_of_length_le (by simp; omega)] at ht
      exact ht
    rw [hL]
/-- The pairs with the numbers from m on. -/
def mkPr : Int → List TPr → List TPr
  | _, [] => []
  | m, p :: t => ⟨p.g, m, m + 1⟩ :: mkPr (m + 2) t
theorem mkPr_len : ∀ (m : Int) (M : List TPr), (mkPr m M).length = M.length
  | _, [] => rfl
  | m, p :: t => by simp [mkPr, mkPr_len (m + 2) t]
theorem mkPr_val : ∀ (m : Int) (M : List TPr), (mkPr m M).map valPr = M.map valPr
  | _, [] => rfl
  | m, p :: t => by simp [mkPr, mkPr_val (m + 2) t]
theorem mkPr_at : ∀ (m : Int) (M : List TPr) (k : Nat), k < M.length → (mkPr m M).getD k noPr = ⟨(M.getD k noPr).g, m + 2 * k, m + 2 * k + 1⟩
  | _, [], k, h => absurd h (by simp)
  | m, p :: t, 0, _ => by simp [mkPr]
  | m, p :: t, k + 1, h => by
    have ih := mkPr_at (m + 2) t k (by simpa using h)
    simp only [mkPr, List.getD_cons_succ]
    rw [ih]
    congr 1 <;> push_cast <;> omega
/-- Pairs in memory, whose first k have the numbers from m on. -/
def halfPr (m : Int) (M : List TPr) (k : Nat) : List TPr := (mkPr m M).take k ++ M.drop k
theorem halfPr_next {m : Int} {M : List TPr} {k : Nat} (h : k < M.length) : halfPr m M (k + 1) = (mkPr m M).take k ++ ⟨(M.getD k noPr).g, m + 2 * k, m + 2 * k + 1⟩ :: M.drop (k + 1) := by
  unfold halfPr
  rw [List.take_succ_eq_append_getElem (by rw [mkPr_len]; exact h), List.append_assoc, ← getPr (by rw [mkPr_len]; exact h), mkPr_at m M k h]
  rfl
theorem halfPr_here {m : Int} {M : List TPr} {k : Nat} (h : k < M.length) : halfPr m M k = (mkPr m M).take k ++ M.getD k noPr :: M.drop (k + 1) := by
  unfold halfPr
  rw [List.drop_eq_getElem_cons h, getPr h]
/-- One pair turns. -/
theorem EachPr.turn {base : Nat} {W W' : World} {A B : List TPr} {p q : TPr} (h : EachPr base W (A ++ p :: B)) (hg : W.grownBy W' (some p.g)) (hq : q.g = p.g) (hb : BoxI W' q.g q.x q.y) : EachPr base W' (A ++ q :: B) := by
  have hd := (List.perm_middle.pairwise_iff (fun {a b : TPr} (h : a.g ≠ b.g) => Ne.symm h)).1 h.dif
  refine ⟨fun r hr => ?_, ?_⟩
  · have key : ∀ r ∈ A ++ B, base ≤ r.g ∧ BoxI W' r.g r.x r.y := fun r hr => by
      have h1 := h.box r ((List.mem_append.1 hr).elim (fun h => List.mem_append_left _ h) (fun h => List.mem_append_right _ (List.mem_cons_of_mem _ h)))
      refine ⟨h1.1, h1.2.kept hg (fun e => ?_)⟩
      exact (List.pairwise_cons.1 hd).1 r hr (Option.some.inj e).symm
    rcases List.mem_append.1 hr with h1 | h1
    · exact key r (List.mem_append_left _ h1)
    · rcases List.mem_cons.1 h1 with rfl | h1
      · exact ⟨by rw [hq]; exact (h.box p (by simp)).1, hb⟩
      · exact key r (List.mem_append_right _ h1)
  · refine (List.perm_middle.pairwise_iff (fun {a b} h => Ne.symm h)).2 (List.pairwise_cons.2 ⟨fun r hr => ?_, (List.pairwise_cons.1 hd).2⟩)
    rw [hq]
    exact (List.pairwise_cons.1 hd).1 r hr

theorem own_under {W W' : World} {b B e z g n c : Nat} {xs : List Value} (h : W.ownsRow b e z (.slice (some ⟨g, 0, none⟩) n c) n xs) (hb : Below B W W') (hg : g < B) : W'.ownsRow b e z (.slice (some ⟨g, 0, none⟩) n c) n xs := by
  refine ⟨h.1, ?_⟩
  rcases h.2 with ⟨e1, -⟩ | ⟨g', cap, cur, hv, h1, h2, h3⟩
  · cases e1
  · cases hv
    exact .inr ⟨g, c, cur, rfl, h1, (hb.block g hg).trans h2, h3⟩
theorem EachPr.under {base B : Nat} {W W' : World} {M : List TPr} (h : EachPr base W M) (hb : Go.RowKit.Below B W W') (hl : ∀ p ∈ M, p.g < B) : EachPr base W' M :=
  ⟨fun p hp => ⟨(h.box p hp).1, (hb.block p.g (hl p hp)).trans (h.box p hp).2⟩, h.dif⟩
end Go.Proofs.Ytgnopkemcgbedab
