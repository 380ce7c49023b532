/- Chapter 7: pairs in memory; the cells that are asked for. -/
import Derived.Test.YtgnopkemcgbedabDgO
import Derived.Test.YtgnopkemcgbedabInv
namespace Go.Proofs.Ytgnopkemcgbedab
open Go.RowKit Go.PlainAid Go.Sort
set_option linter.unusedVariables false
set_option linter.unusedSimpArgs false

theorem keep_empty {w w' : World} {base g gq z : Nat} {e : TypeId} {xs : List Value} (h : w.ownsRow base e z (.slice (some ⟨g, 0, none⟩) 0 0) 0 []) (hgr : w.grownBy w' (some g))
    (k : ∀ j u, xs[j]? = some u → w.cell? ((⟨gq, 0, none⟩ : Addr).add j) = some u) : ∀ j u, xs[j]? = some u → w'.cell? ((⟨gq, 0, none⟩ : Addr).add j) = some u := by
  intro j u hu
  have hc := k j u hu
  have hlt := World.block_lt_of_cell? w _ hc
  have hb : ((⟨gq, 0, none⟩ : Addr).add j).block = gq := by unfold Addr.add; split <;> rfl
  rw [hb] at hlt
  have hne : gq ≠ g := by
    rintro rfl
    rcases h.2 with ⟨e1, -⟩ | ⟨g', cap', cur, hv, -, hbk, -, -, hcs, -⟩
    · cases e1
    · cases hv
      have h0 : cur.size = 0 := by simpa using hcs
      unfold World.cell? at hc
      rw [hb, hbk] at hc
      simp only at hc
      split at hc
      · cases hc
      · rw [Array.getElem?_eq_none (by omega)] at hc; cases hc
  rw [← hc]
  exact World.cell?_of_block (by rw [hb]; exact hgr.block gq hlt (fun e => hne (by cases e; rfl)))


theorem Try.infoSl' : (Try.prog.info? 25).map (fun i => (i.zero, i.size, i.bytes)) = some (some (.slice none 0 0), 1, 24) := by kernel_rfl
/-- A pair of numbers in a block of its own. -/
structure TPr where
  g : Nat
  x : Int
  y : Int
def noPr : TPr := ⟨0, 0, 0⟩
abbrev valPr (p : TPr) : Value := .slice (some ⟨p.g, 0, none⟩) 2 2
def numsPr (M : List TPr) : List (Int × Int) := M.map fun p => (p.x, p.y)
def BoxI (W : World) (g : Nat) (x y : Int) : Prop := W.heap[g]? = some (.cells #[.int .i64 x, .int .i64 y] 3 (0, 0))
section
variable {W : World} {g : Nat} {x y : Int}
theorem BoxI.c0 (h : BoxI W g x y) : W.cell? ⟨g, 0, none⟩ = some (.int .i64 x) := cell_of_row W g 0 _ _ _ h
theorem BoxI.c1 (h : BoxI W g x y) : W.cell? ⟨g, 1, none⟩ = some (.int .i64 y) := cell_of_row W g 1 _ _ _ h
theorem BoxI.lt (h : BoxI W g x y) : g < W.heap.size := (Array.getElem?_eq_some_iff.1 h).1
theorem BoxI.all {w' : World} (h : BoxI W g x y) (hb : Below W.heap.size W w') : BoxI w' g x y := (hb.block g h.lt).trans h
theorem BoxI.kept {w' : World} {row : Option Nat} (h : BoxI W g x y) (hg : W.grownBy w' row) (hne : some g ≠ row) : BoxI w' g x y := (hg.block g h.lt hne).trans h
theorem BoxI.has (h : BoxI W g x y) : Has W W.heap.size (some ⟨g, 0, none⟩) [.int .i64 x, .int .i64 y] := by
  intro k u hu
  refine ⟨_, rfl, h.lt, ?_⟩
  match k, hu with
  | 0, hu => exact h.c0.trans hu
  | 1, hu => exact h.c1.trans hu
end
/-- A row of other things lies in another block. -/
theorem BoxI.ne {W : World} {g g' base n c z : Nat} {e : TypeId} {xs : List Value} {a b : Int} (h : BoxI W g a b) (hr : W.ownsRow base e z (.slice (some ⟨g', 0, none⟩) n c) n xs) (he : e ≠ 3) : g ≠ g' := by
  rintro rfl
  rcases hr.2 with ⟨e1, -⟩ | ⟨g', cap', cur, hv, -, hbk, -⟩
  · cases e1
  · cases hv
    unfold BoxI at h
    rw [h] at hbk
    injection hbk with hbk
    injection hbk with _ h2 _
    exact he h2.symm
/-- These pairs lie in blocks of their own. -/
structure EachPr (base : Nat) (W : World) (M : List TPr) : Prop where
  box : ∀ p ∈ M, base ≤ p.g ∧ BoxI W p.g p.x p.y
  dif : M.Pairwise fun p q => p.g ≠ q.g
theorem EachPr.nil (base : Nat) (W : World) : EachPr base W [] := ⟨by simp, List.Pairwise.nil⟩
theorem EachPr.all {base : Nat} {W w' : World} {M : List TPr} (h : EachPr base W M) (hb : Below W.heap.size W w') : EachPr base w' M :=
  ⟨fun p hp => ⟨(h.box p hp).1, (h.box p hp).2.all hb⟩, h.dif⟩
theorem EachPr.kept {base g : Nat} {W w' : World} {M : List TPr} (h : EachPr base W M) (hg : W.grownBy w' (some g)) (hne : ∀ p ∈ M, p.g ≠ g) : EachPr base w' M :=
  ⟨fun p hp => ⟨(h.box p hp).1, (h.box p hp).2.kept hg (fun e => hne p hp (by cases e; rfl))⟩, h.dif⟩
theorem EachPr.perm {base : Nat} {W : World} {M N : List TPr} (h : EachPr base W M) (hp : N.Perm M) : EachPr base W N :=
  ⟨fun p hq => h.box p (hp.mem_iff.1 hq), (hp.pairwise_iff (fun {a b} h => Ne.symm h)).2 h.dif⟩
theorem EachPr.ins {base : Nat} {W : World} {A B : List TPr} {p : TPr} (h : EachPr base W (A ++ B)) (hp : base ≤ p.g ∧ BoxI W p.g p.x p.y) (hn : ∀ q ∈ A ++ B, q.g ≠ p.g) : EachPr base W (A ++ p :: B) := by
  refine ⟨fun q hq => ?_, ?_⟩
  · rcases List.mem_append.1 hq with h1 | h1
    · exact h.box q (List.mem_append_left _ h1)
    · rcases List.mem_cons.1 h1 with rfl | h1
      · exact hp
      · exact h.box q (List.mem_append_right _ h1)
  · refine (List.perm_middle.pairwise_iff (fun {a b} h => Ne.symm h)).2 (List.pairwise_cons.2 ⟨fun q hq => (hn q hq).symm, h.dif⟩)
theorem getPr {M : List TPr} {j : Nat} (h : j < M.length) : M.getD j noPr = M[j] := by
  rw [List.getD_eq_getElem?_getD, List.getElem?_eq_getElem h]
  rfl
theorem ownPr_cell {w : World} {base g n c : Nat} {M : List TPr} (h : w.ownsRow base 25 1 (.slice (some ⟨g, 0, none⟩) n c) n (M.map valPr)) {k : Nat} (hk : k < n) : w.cell? ⟨g, k, none⟩ = some (valPr (M.getD k noPr)) := by
  have hl : M.length = n := by have := h.1; simpa using this
  rw [h.cellAt k (by omega), getPr (by omega)]
  simp [hl, hk]
/-- What is asked of the cells. -/
def okP (vs : List TCargo) (cs : List Int) : Prop := gCs vs = true ∧ cs.length = vs.length ∧ allIn 0 200 cs
theorem okP_cell {vs : List TCargo} {cs : List Int} (h : okP vs cs) {k : Nat} (hk : k < vs.length) : 0 ≤ cs.getD k 0 ∧ cs.getD k 0 ≤ 200 := allIn_getD h.2.2 (by rw [h.2.1]; exact hk)
/-- What UnsafePairs answers. -/
def UnsA (vs : List TCargo) (cs : List Int) (L : List (Int × Int)) (x : Bool) : Prop := (okP vs cs → PairsA vs cs L ∧ x = true) ∧ (¬ okP vs cs → L = [] ∧ x = false)
theorem unsA_ex (vs : List TCargo) (cs : List Int) : ∃ L x, UnsA vs cs L x := by
  by_cases h : okP vs cs
  · obtain ⟨L, hL⟩ := pairs_ex vs cs
    exact ⟨L, true, fun _ => ⟨hL, rfl⟩, fun k => absurd h k⟩
  · exact ⟨[], false, fun k => absurd k h, fun _ => ⟨rfl, rfl⟩⟩
theorem UnsA.len {vs : List TCargo} {cs : List Int} {L : List (Int × Int)} {x : Bool} (h : UnsA vs cs L x) : L.length ≤ 36 := by
  by_cases k : okP vs cs
  · exact pairsA_len (h.1 k).1 ((gCs_iff vs).1 k.1).1
  · rw [(h.2 k).1]; simp
/-- What the call hands back: pairs in blocks of their own. -/
def GivesP (w : World) (L : List (Int × Int)) (x : Bool) (e : Ending) (w' : World) : Prop :=
  ∃ (g c : Nat) (M : List TPr), e = .returned (.tuple #[.slice (some ⟨g, 0, none⟩) M.length c, .bool x]) ∧ numsPr M = L ∧ w'.ownsRow w.heap.size 25 1 (.slice (some ⟨g, 0, none⟩) M.length c) M.length (M.map valPr) ∧ EachPr w.heap.size w' M ∧ Below w.heap.size w w'

set_option maxRecDepth 100000 in
set_option maxHeartbeats 2000000 in
theorem l7Cells_any {w : World} {B B2 : Nat} {A A2 : Option Addr} {n n2 : Nat} {vs : List TCargo} {cs : List Int} (c c2 : Nat) (h : IsCargos w B A n vs) (hm : n ≤ 1048576) (hl : cs.length = n2) (hm2 : n2 ≤ 1048576) (hB2 : B2 ≤ w.heap.size) (h2 : Has w B2 A2 (cs.map (.int .i64))) (R : Bool) (hR : R = true ↔ okP vs cs) :
    Calls Try.prog 83 #[.slice A n c, .slice A2 n2 c2] w fun e w' => e = .returned (.bool R) ∧ Below w.heap.size w w' := by
  have CG := Lib.hid (l7Good_any c h (Nat.le_trans hm (by unfold maxLen; omega)))
  have CI := Lib.hid (fun (z : Int) W => l1In_any z 0 200 W)
  have HL := Lib.hid hl
  have H2 := Lib.hid h2
  have HN : Hid (∀ q, q < n2 → ¬ (0 ≤ cs.getD q 0 ∧ cs.getD q 0 ≤ 200) → R = false) := Lib.hid (fun q hq hz => by
    cases R with
    | false => rfl
    | true => exact absurd (allIn_getD (hR.1 rfl).2.2 (by omega)) hz)
  have HY : Hid ((∀ q, q < n2 → 0 ≤ cs.getD q 0 ∧ cs.getD q 0 ≤ 200) → R = (gCs vs && decide ((n2 : Int) = (n : Int)))) := Lib.hid (fun hz => by
    have ha : allIn 0 200 cs := fun z hz2 => by
      obtain ⟨q, hq, rfl⟩ := List.getElem_of_mem hz2
      have := hz q (by omega)
      simpa [List.getD_eq_getElem?_getD, hq] using this
    rw [Bool.eq_iff_iff, hR]
    unfold okP
    rw [hl, h.len]
    simp [ha]
    intro _
    omega)
  generalize gCs vs = G at CG HY
  clear hl h2 hR h
  go_enter Try.func83, Try.ntmps83
  go_wp2_with fail
  go_loop [5] (fun i => ∃ q : Nat, q ≤ n2 ∧ i = .int .i64 q ∧ Hid (∀ j, j < q → 0 ≤ cs.getD j 0 ∧ cs.getD j 0 ≤ 200)) (fun i => n2 - (intOf i).toNat)
  case atStart => exact ⟨0, Nat.zero_le _, rfl, Lib.hid (fun j hj => absurd hj (by omega))⟩
  case round =>
    obtain ⟨q, hq, rfl, hall⟩ := hrel
    by_cases hlt : q < n2
    · obtain ⟨a2, rfl, hab2, ez⟩ := intGet H2.out (k := q) (by rw [HL.out]; exact hlt)
      have HF2 := Lib.hid (HN.out q hlt)
      have HA2 : Hid ((0 ≤ cs.getD q 0 ∧ cs.getD q 0 ≤ 200) → ∀ j, j < q + 1 → 0 ≤ cs.getD j 0 ∧ cs.getD j 0 ≤ 200) := Lib.hid (fun h j hj => by
        rcases Nat.lt_succ_iff_lt_or_eq.1 hj with h1 | h1
        · exact hall.out j h1
        · subst h1; exact h)
      generalize cs.getD q 0 = z at ez HF2 HA2
      have CZ := Lib.hid (fun W => CI.out z W)
      have hq0 : (0 : Int) ≤ (q : Int) := by omega
      have hq1 : (q : Int) < (n2 : Int) := by omega
      clear hall HN HY CI H2 CG
      by_cases hz : 0 ≤ z ∧ z ≤ 200
      · rw [decide_eq_true hz] at CZ
        have HR := Lib.hid (HA2.out hz)
        clear HF2 HA2 hz
        go_wp2_with fail
        refine (CZ.out _).mono ?_
        rintro e w3 ⟨rfl, rfl⟩
        go_wp2_with fail
        go_round
        case rel => exact ⟨q + 1, by omega, by go_num, HR⟩
        case measure => simp [intOf]; omega
      · rw [decide_eq_false hz] at CZ
        obtain rfl : R = false := HF2.out hz
        clear HF2 HA2 hz
        go_wp2_with fail
        refine (CZ.out _).mono ?_
        rintro e w3 ⟨rfl, rfl⟩
        go_wp2_with fail
        go_ret
        exact ⟨rfl, Below.refl _ _⟩
    · obtain rfl : q = n2 := by omega
      have hRR := HY.out (fun j h => hall.out j h)
      have HRR := Lib.hid hRR
      clear hall HN CI H2 HY hRR
      go_wp2_with fail
      refine CG.out.mono ?_
      rintro e w3 ⟨rfl, hb⟩
      have HB := Lib.hid hb
      clear hb CG
      cases G with
      | false =>
        obtain rfl : R = false := HRR.out
        clear HRR
        go_wp2_with fail
        go_ret
        exact ⟨rfl, HB.out⟩
      | true =>
        by_cases hqn : (q : Int) = (n : Int)
        · have hb : ((q : Int) == (n : Int)) = true := by simpa using hqn
          obtain rfl : R = true := by rw [HRR.out, decide_eq_true hqn]; rfl
          clear HRR hqn
          go_wp2_with fail
          go_ret
          exact ⟨rfl, HB.out⟩
        · have hb : ((q : Int) == (n : Int)) = false := by simpa using hqn
          obtain rfl : R = false := by rw [HRR.out, decide_eq_false hqn]; rfl
          clear HRR hqn
          go_wp2_with fail
          go_ret
          exact ⟨rfl, HB.out⟩

def cmp2 (x y x2 y2 : Int) : Int := if x = x2 then cmpI y y2 else cmpI x x2
theorem cmp2_neg (x y x2 y2 : Int) : cmp2 x y x2 y2 < 0 ↔ ltP (x, y) (x2, y2) := by
  unfold cmp2 cmpI ltP
  repeat' split
  all_goals (dsimp only; omega)
set_option maxRecDepth 100000 in
set_option maxHeartbeats 2000000 in
theorem cmp2_any (g1 g2 : Nat) (x y x2 y2 : Int) (w : World) (h1 : BoxI w g1 x y) (h2 : BoxI w g2 x2 y2) :
    Calls Try.prog 81 #[.slice (some ⟨g1, 0, none⟩) 2 2, .slice (some ⟨g2, 0, none⟩) 2 2] w fun e w' => e = .returned (.int .i64 (cmp2 x y x2 y2)) ∧ w = w' := by
  have a0 := h1.c0
  have a1 := h1.c1
  have b0 := h2.c0
  have b1 := h2.c1
  have C0 := Lib.hid (fun W => cmpInt_any x x2 W)
  have C1 := Lib.hid (fun W => cmpInt_any y y2 W)
  have HZ0 := Lib.hid (cmpI_zero x x2)
  have HZ1 := Lib.hid (cmpI_zero y y2)
  have HR : Hid ((x ≠ x2 → cmp2 x y x2 y2 = cmpI x x2) ∧ (x = x2 → cmp2 x y x2 y2 = cmpI y y2)) := Lib.hid ⟨fun h => by unfold cmp2; rw [if_neg h], fun h => by unfold cmp2; rw [if_pos h]⟩
  generalize cmp2 x y x2 y2 = R at HR ⊢
  generalize cmpI x x2 = z0 at C0 HZ0 HR
  generalize cmpI y y2 = z1 at C1 HZ1 HR
  clear h1 h2
  go_enter Try.func81, Try.ntmps81
  go_wp2_with fail
  go_loop [11] (fun i => ∃ q : Nat, q ≤ 2 ∧ i = .int .i64 q ∧ Hid ((1 ≤ q → z0 = 0) ∧ (2 ≤ q → z1 = 0))) (fun i => 2 - (intOf i).toNat)
  case atStart => exact ⟨0, by omega, rfl, Lib.hid ⟨fun h => absurd h (by omega), fun h => absurd h (by omega)⟩⟩
  case round =>
    obtain ⟨q, hq, rfl, hz⟩ := hrel
    match q, hq with
    | 0, _ =>
      clear hz
      go_wp2_with fail
      refine (C0.out _).mono ?_
      rintro e w1 ⟨rfl, rfl⟩
      by_cases h0 : z0 = 0
      · have hb : (z0 != 0) = false := by simp [h0]
        have H0 := Lib.hid h0
        clear h0
        go_wp2_with fail
        go_round
        case rel => exact ⟨1, by omega, by go_num, Lib.hid ⟨fun _ => H0.out, fun h => absurd h (by omega)⟩⟩
        case measure => simp [intOf]
      · have hb : (z0 != 0) = true := by simp [h0]
        obtain rfl : R = z0 := HR.out.1 (fun e => h0 (HZ0.out.2 e))
        clear h0
        go_wp2_with fail
        go_ret
        exact ⟨rfl, rfl⟩
    | 1, _ =>
      have hxx : x = x2 := HZ0.out.1 (hz.out.1 (by omega))
      have H1 := Lib.hid (HR.out.2 hxx)
      have HX := Lib.hid hxx
      have H0 := Lib.hid (hz.out.1 (by omega))
      clear hz hxx
      go_wp2_with fail
      refine (C1.out _).mono ?_
      rintro e w1 ⟨rfl, rfl⟩
      by_cases h0 : z1 = 0
      · have hb : (z1 != 0) = false := by simp [h0]
        have H2 := Lib.hid h0
        clear h0
        go_wp2_with fail
        go_round
        case rel => exact ⟨2, by omega, by go_num, Lib.hid ⟨fun _ => H0.out, fun _ => H2.out⟩⟩
        case measure => simp [intOf]
      · have hb : (z1 != 0) = true := by simp [h0]
        obtain rfl : R = z1 := H1.out
        clear h0
        go_wp2_with fail
        go_ret
        exact ⟨rfl, rfl⟩
    | 2, _ =>
      obtain rfl : R = 0 := by rw [HR.out.2 (HZ0.out.1 (hz.out.1 (by omega))), hz.out.2 (by omega)]
      clear hz
      go_wp2_with fail
      go_ret
      exact ⟨rfl, rfl⟩
end Go.Proofs.Ytgnopkemcgbedab
