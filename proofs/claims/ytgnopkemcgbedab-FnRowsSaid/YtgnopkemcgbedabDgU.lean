/- Chapter 7: the unsafe pairs of the program; both sides as contracts. -/
import Derived.Test.YtgnopkemcgbedabDgR
import Derived.Test.YtgnopkemcgbedabDgS
namespace Go.Proofs.Ytgnopkemcgbedab
open Go.RowKit Go.PlainAid Go.Sort
set_option linter.unusedVariables false
set_option linter.unusedSimpArgs false

theorem has_in {w : World} {B : Nat} {A : Option Addr} {xs : List Value} (h : Has w B A xs) (hB : B ≤ w.heap.size) : Has w w.heap.size A xs := h.more hB
theorem POwn.gives {w W : World} {vs : List TCargo} {cs : List Int} {n : Nat} {v : Value} {L : List (Int × Int)} (h : POwn w W vs cs n n 0 v) (hn : vs.length = n) (hL : PairsA vs cs L) : GivesP w L true (.returned (.tuple #[v, .bool true])) W := by
  obtain ⟨g0, cp, M, rfl, h1, h2, h3, h4, h5, h6⟩ := h
  refine ⟨g0, cp, M, rfl, ?_, h4, h5, h6⟩
  refine pairs_one (vs := vs) (cs := cs) ⟨?_, h2⟩ hL
  rw [hn]
  simpa [rowP] using h1
theorem gives_nil {w W : World} (hb : Below w.heap.size w W) : GivesP w [] false (.returned (.tuple #[.slice (some ⟨W.heap.size, 0, none⟩) 0 0, .bool false])) (W.alloc (.cells #[] 25)) :=
  ⟨W.heap.size, 0, [], rfl, rfl, own_low (World.ownsRow_made W #[] 0 (Nat.le_refl _) (by unfold maxLen; omega) rfl) hb.size, EachPr.nil _ _, hb.alloc hb.size _⟩
theorem okP_dec (vs : List TCargo) (cs : List Int) : ∃ R : Bool, R = true ↔ okP vs cs := by
  by_cases h : okP vs cs
  · exact ⟨true, by simpa using h⟩
  · exact ⟨false, by simpa using h⟩

set_option maxHeartbeats 2000000 in
theorem unsS_any {w : World} {B B2 : Nat} {A A2 : Option Addr} {n n2 : Nat} {vs : List TCargo} {cs : List Int} (c c2 : Nat) (h : IsCargos w B A n vs) (hm : n ≤ 1048576) (hl : cs.length = n2) (hm2 : n2 ≤ 1048576) (hB2 : B2 ≤ w.heap.size) (h2 : Has w B2 A2 (cs.map (.int .i64))) (L : List (Int × Int)) (x : Bool) (hA : UnsA vs cs L x) :
    Calls Try.prog 36 #[.slice A n c, .slice A2 n2 c2] w (GivesP w L x) := by
  obtain ⟨R, hR⟩ := okP_dec vs cs
  have C := Lib.hid (l7Cells_any c c2 h hm hl hm2 hB2 h2 R hR)
  have HI := Lib.hid h
  have H2 := Lib.hid h2
  have HR := Lib.hid hR
  have HA := Lib.hid hA
  have HL := Lib.hid hl
  clear h h2 hR hA hl
  go_enter Try.func36, Try.ntmps36
  go_wp2_with fail
  refine C.out.mono ?_
  rintro e w1 ⟨rfl, hb⟩
  have HB1 := Lib.hid hb
  clear hb C
  cases R with
  | false =>
    obtain ⟨rfl, rfl⟩ := HA.out.2 (fun k => by have := HR.out.2 k; cases this)
    clear HA HR
    go_wp2_with fail
    refine bodyPost_ret (results_tmp2 rfl _ _ _) rfl ?_
    exact gives_nil HB1.out
  | true =>
    have hok := HR.out.1 rfl
    obtain ⟨hL, rfl⟩ := HA.out.1 hok
    obtain rfl : n2 = n := by rw [← HL.out, hok.2.1, HI.out.len]
    have CP := Lib.hid (l7Pairs_any c c2 (HI.out.below HB1.out HI.out.low) hok (Nat.le_trans hB2 HB1.out.size) (H2.out.below (HB1.out.mono hB2)))
    have HLA := Lib.hid hL
    clear HA HR hok hL
    go_wp2_with fail
    refine CP.out.mono ?_
    rintro e w2 ⟨v, rfl, hP⟩
    have HP := Lib.hid hP
    clear hP CP
    go_wp2_with fail
    refine bodyPost_ret (results_tmp2 rfl _ _ _) rfl ?_
    obtain ⟨g0, cp, M, hv, q1, q2, q3, q4⟩ := HP.out.gives HI.out.len HLA.out
    exact ⟨g0, cp, M, hv, q1, own_low q2 HB1.out.size, ⟨fun p hp => ⟨Nat.le_trans HB1.out.size (q3.box p hp).1, (q3.box p hp).2⟩, q3.dif⟩, HB1.out.trans (q4.mono HB1.out.size)⟩
/-- The pairs found so far, in a row of one's own, as they came. -/
def QOwn (w W : World) (vs : List TCargo) (cs : List Int) (n i j : Nat) (v : Value) : Prop :=
  ∃ (g0 cp : Nat) (M : List TPr), v = .slice (some ⟨g0, 0, none⟩) M.length cp ∧ (numsPr M).Perm (allP vs cs n i ++ rowP vs cs i j) ∧ w.heap.size ≤ g0 ∧
    W.ownsRow w.heap.size 25 1 (.slice (some ⟨g0, 0, none⟩) M.length cp) M.length (M.map valPr) ∧ EachPr w.heap.size W M ∧ Below w.heap.size w W
theorem QOwn.below {w W W' : World} {vs : List TCargo} {cs : List Int} {n i j : Nat} {v : Value} (h : QOwn w W vs cs n i j v) (hb : Go.RowKit.Below W.heap.size W W') : QOwn w W' vs cs n i j v := by
  obtain ⟨g0, cp, M, rfl, h1, h3, h4, h5, h6⟩ := h
  exact ⟨g0, cp, M, rfl, h1, h3, own_below h4 hb, h5.all hb, h6.trans (hb.mono h6.size)⟩
theorem QOwn.no {w W : World} {vs : List TCargo} {cs : List Int} {n i j : Nat} {v : Value} (h : QOwn w W vs cs n i j v) (hb : badP vs cs i j = false) : QOwn w W vs cs n i (j + 1) v := by
  obtain ⟨g0, cp, M, rfl, h1, h2⟩ := h
  exact ⟨g0, cp, M, rfl, by rw [rowP, hb]; simpa using h1, h2⟩
theorem QOwn.next {w W : World} {vs : List TCargo} {cs : List Int} {n i : Nat} {v : Value} (h : QOwn w W vs cs n i n v) : QOwn w W vs cs n (i + 1) 0 v := by
  obtain ⟨g0, cp, M, rfl, h1, h2⟩ := h
  exact ⟨g0, cp, M, rfl, by rw [allP, rowP, List.append_nil]; exact h1, h2⟩
/-- One pair more. -/
theorem QOwn.more {w W W9 : World} {vs : List TCargo} {cs : List Int} {n i k g0 cp g1 c1 : Nat} {M : List TPr} {x y : Int} {t : TypeId} {o2 : Obj} (h1 : (numsPr M).Perm (allP vs cs n i ++ rowP vs cs i k)) (hown : W.ownsRow w.heap.size 25 1 (.slice (some ⟨g0, 0, none⟩) M.length cp) M.length (M.map valPr))
    (hea : EachPr w.heap.size W M) (hb : Below w.heap.size w W) (hg0 : w.heap.size ≤ g0) (hbad : badP vs cs i k = true) (hpr : prP vs i k = (x, y))
    (hgr : ((W.alloc (.cells #[.int .i64 x, .int .i64 y] 3)).alloc o2).grownBy W9 (some g0)) (hg1 : w.heap.size ≤ g1)
    (hown1 : W9.ownsRow w.heap.size 25 1 (.slice (some ⟨g1, 0, none⟩) (M.length + 1) c1) (M.length + 1) (M.map valPr ++ [.slice (some ⟨W.heap.size, 0, none⟩) 2 2])) : QOwn w W9 vs cs n i (k + 1) (.slice (some ⟨g1, 0, none⟩) (M.length + 1) c1) := by
  have hlt := (hown.lt g0 rfl).2
  have hbx : BoxI (W.alloc (.cells #[.int .i64 x, .int .i64 y] 3)) W.heap.size x y := heap_alloc_new W _
  have hk1 : BoxI W9 W.heap.size x y := (hbx.all (below1 _ o2)).kept hgr (fun e => by have := Option.some.inj e; omega)
  have hk2 : EachPr w.heap.size W9 M := ((hea.all (below2 W _ o2)).kept hgr (fun p hp => (hea.box p hp).2.ne hown (by decide)))
  refine ⟨g1, c1, M ++ [⟨W.heap.size, x, y⟩], by simp, ?_, hg1, by simpa using hown1, ?_, ?_⟩
  · rw [rowP, hbad, if_pos rfl, hpr, ← List.append_assoc]
    simpa [numsPr] using List.Perm.append_right [(x, y)] h1
  · have := EachPr.ins (A := M) (B := []) (p := ⟨W.heap.size, x, y⟩) (by simpa using hk2) ⟨hb.size, hk1⟩ (fun q hq => by
      have := (hea.box q (by simpa using hq)).2.lt
      show q.g ≠ W.heap.size
      omega)
    exact this
  · exact (hb.trans ((below2 W _ o2).mono hb.size)).grown hgr (by have := hb.size; simp; omega) (fun q e => by cases e; exact hg0)
theorem QOwn.len {M : List TPr} {vs : List TCargo} {cs : List Int} {n i k : Nat} (hM1 : (numsPr M).Perm (allP vs cs n i ++ rowP vs cs i k)) (hi : i ≤ n) (hk : k ≤ n) (hn : n ≤ 6) : M.length ≤ 42 := by
  have e1 := hM1.length_eq
  rw [List.length_append] at e1
  have e2 := allP_len vs cs n i
  have e3 := rowP_len vs cs i k
  have e4 : i * n ≤ 6 * 6 := Nat.mul_le_mul (by omega) hn
  simp [numsPr] at e1
  omega
theorem BoxC.ne {W : World} {g g' base n c z : Nat} {e : TypeId} {xs : List Value} {a b d : Int} (h : BoxC W g a b d) (hr : W.ownsRow base e z (.slice (some ⟨g', 0, none⟩) n c) n xs) (he : e ≠ 54) : g ≠ g' := by
  rintro rfl
  rcases hr.2 with ⟨e1, -⟩ | ⟨g', cap', cur, hv, -, hbk, -⟩
  · cases e1
  · cases hv
    unfold BoxC at h
    rw [h] at hbk
    injection hbk with hbk
    injection hbk with _ h2 _
    exact he h2.symm
theorem cell_new2 (w : World) (o : Obj) (x : Value) (t : TypeId) : ∀ j u, [x][j]? = some u → ((w.alloc o).alloc (.cells #[x] t)).cell? ((⟨w.heap.size + 1, 0, none⟩ : Addr).add j) = some u := by
  intro j u h
  have := cell_one_new (w.alloc o) x t j u h
  simpa using this
set_option maxRecDepth 100000 in
set_option maxHeartbeats 8000000 in
theorem unsI_any {w : World} {B B2 : Nat} {A A2 : Option Addr} {n n2 : Nat} {vs : List TCargo} {cs : List Int} (c c2 : Nat) (h : IsCargos w B A n vs) (hm : n ≤ 1048576) (hnc : n ≤ c) (hl : cs.length = n2) (hm2 : n2 ≤ 1048576) (hB2 : B2 ≤ w.heap.size) (h2 : Has w B2 A2 (cs.map (.int .i64))) (L : List (Int × Int)) (x : Bool) (hA : UnsA vs cs L x) :
    Calls Try.prog 34 #[.slice A n c, .slice A2 n2 c2] w (GivesP w L x) := by
  obtain ⟨j0, hj, hy0, hy1, hy2⟩ := info_parts Try.infoSl'
  have C := Lib.hid (isCargoList_any c h (Nat.le_trans hm (by unfold maxLen; omega)) hnc)
  have CA := Lib.hid (fun W (hb : Below w.heap.size w W) => areIn_any 0 200 A2 n2 c2 B2 cs W hl hm2 (h2.below (hb.mono hB2)))
  have HI := Lib.hid h
  have H2 := Lib.hid h2
  have HA := Lib.hid hA
  have HL := Lib.hid hl
  obtain ⟨G, hG⟩ : ∃ G, gCs vs = G := ⟨_, rfl⟩
  rw [hG] at C
  have HGE := Lib.hid hG
  clear h h2 hA hG hl
  go_enter Try.func34, Try.ntmps34
  go_wp2_with fail
  refine C.out.mono ?_
  rintro e w1 ⟨rfl, hb⟩
  have HB1 := Lib.hid hb
  clear hb C
  cases G with
  | false =>
    obtain ⟨rfl, rfl⟩ := HA.out.2 (fun k => by have := k.1; rw [HGE.out] at this; cases this)
    clear HA CA
    go_wp2_with fail
    refine bodyPost_ret (results_tmp2 rfl _ _ _) rfl ?_
    exact gives_nil HB1.out
  | true =>
  by_cases hnn : n2 = n
  · subst hnn
    have hne : ((n2 : Int) != (n2 : Int)) = false := by simp
    have CA1 := Lib.hid (CA.out _ HB1.out)
    clear CA
    by_cases hin : allIn 0 200 cs
    · rw [decide_eq_true hin] at CA1
      have hok : okP vs cs := ⟨HGE.out, by rw [HL.out, HI.out.len], hin⟩
      obtain ⟨hL, rfl⟩ := HA.out.1 hok
      have HLA := Lib.hid hL
      have hgg := (gCs_iff vs).1 hok.1
      have hn6 : n2 ≤ 6 := by rw [← HI.out.len]; exact hgg.1
      have HG := Lib.hid (fun j (hj : j < n2) => good_at hgg (k := j) (by rw [HI.out.len]; exact hj))
      have HC := Lib.hid (fun j (hj : j < n2) => okP_cell hok (k := j) (by rw [HI.out.len]; exact hj))
      clear HA hin hok hL hgg HGE
      go_wp2_with fail
      refine CA1.out.mono ?_
      rintro e w2 ⟨rfl, rfl⟩
      clear CA1
      have P1 : Hid (QOwn w1 (w1.alloc (.cells #[] 25)) vs cs n2 0 0 (.slice (some ⟨w1.heap.size, 0, none⟩) 0 0)) := Lib.hid ⟨_, 0, [], rfl, List.Perm.refl _, Nat.le_refl _, World.ownsRow_made w1 #[] 0 (Nat.le_refl _) (by unfold maxLen; omega) rfl, EachPr.nil _ _, below1 _ _⟩
      have CB := Lib.hid (fun (a0 a1 a2 p b0 b1 b2 q : Int) hx hy hp hq W => between_any a0 a1 a2 p b0 b1 b2 q W hx hy hp hq)
      have CG := Lib.hid (fun (a0 a1 a2 b0 b1 b2 : Int) hx hy W => gapOf_any a0 a1 a2 b0 b1 b2 W hx hy)
      go_wp2_with fail
      go_loopw [6, 30] (fun v i wr => ∃ k : Nat, k ≤ n2 ∧ i = .int .i64 k ∧ QOwn w1 wr vs cs n2 k 0 v) (fun _ i _ => n2 - (intOf i).toNat)
      case atStart => exact ⟨0, Nat.zero_le _, rfl, P1.out⟩
      case round =>
        clear P1
        obtain ⟨i, hi, rfl, hP⟩ := hrel
        by_cases hlti : i < n2
        · have hi0 : (0 : Int) ≤ (i : Int) := by omega
          have hi1 : (i : Int) < (n2 : Int) := by omega
          have HP := Lib.hid hP
          have hb0 : Below w1.heap.size w1 wr := by obtain ⟨_, _, _, -, -, -, -, -, h⟩ := hP; exact h
          have HBW := Lib.hid (HB1.out.trans (hb0.mono HB1.out.size))
          clear hP hb0
          obtain ⟨a1, rfl, hab, HV⟩ := (HI.out.below HBW.out HI.out.low).has.Cargo (k := i) (by rw [HI.out.len]; exact hlti)
          obtain ⟨a2, rfl, hab2, hci9⟩ := intGet (H2.out.below (HBW.out.mono hB2)) (k := i) (by rw [HL.out]; exact hlti)
          have HCI := Lib.hid (fun W (hb : Below w.heap.size w W) => intGet (H2.out.below (hb.mono hB2)) (k := i) (by rw [HL.out]; exact hlti))
          have HUK := Lib.hid (fun k (hk : k < n2) W (hb : Below w.heap.size w W) => (HI.out.below hb HI.out.low).has.Cargo (k := k) (by rw [HI.out.len]; exact hk))
          have HCK := Lib.hid (fun k (hk : k < n2) W (hb : Below w.heap.size w W) => intGet (H2.out.below (hb.mono hB2)) (k := k) (by rw [HL.out]; exact hk))
          have HBAD0 : Hid (∀ k, badP vs cs i k = decide ((vs.getD i noCargo).x0 < (vs.getD k noCargo).x0 ∧ betZ (vs.getD i noCargo) (vs.getD k noCargo) (cs.getD i 0) (cs.getD k 0) < gapZ (vs.getD i noCargo).x2 (vs.getD k noCargo).x2)) := Lib.hid (fun k => rfl)
          have HPR0 : Hid (∀ k, prP vs i k = ((vs.getD i noCargo).x0, (vs.getD k noCargo).x0)) := Lib.hid (fun k => rfl)
          have hgi := HG.out i hlti
          have hci := HC.out i hlti
          obtain ⟨V, hV⟩ : ∃ V, vs.getD i noCargo = V := ⟨_, rfl⟩
          obtain ⟨ci, hcz⟩ : ∃ z, cs.getD i 0 = z := ⟨_, rfl⟩
          rw [hV] at HV HBAD0 HPR0 hgi
          rw [hcz] at HCI HBAD0 hci
          clear hV hcz hci9
          obtain ⟨di, li, qi⟩ := V
          obtain ⟨e0, e1, e2⟩ := HV
          dsimp only at e0 e1 e2 hgi
          obtain ⟨hgi0, hgi1, hgi2⟩ := hgi
          dsimp only at hgi0 hgi1 hgi2
          obtain ⟨xb, hxb⟩ : ∃ g, wr.heap.size = g := ⟨_, rfl⟩
          obtain ⟨W3, hW3⟩ : ∃ W, wr.alloc (.cells #[.int .i64 di, .int .i64 li, .int .i64 qi] 54) = W := ⟨_, rfl⟩
          have PA : Hid (BoxC W3 xb di li qi) := Lib.hid (by rw [← hW3, ← hxb]; exact BoxC.new wr di li qi)
          have HP3 : Hid (QOwn w1 W3 vs cs n2 i 0 _) := Lib.hid (by rw [← hW3]; exact HP.out.below (below1 _ _))
          clear HP HBW
          go_wp2_with fail
          try rw [hW3]
          try rw [hxb]
          clear hW3 hxb e0 e1 e2
          go_loopw [6, 37] (fun v j wr => ∃ k : Nat, k ≤ n2 ∧ j = .int .i64 k ∧ Hid (BoxC wr xb di li qi) ∧ QOwn w1 wr vs cs n2 i k v) (fun _ j _ => n2 - (intOf j).toNat)
          case atStart => exact ⟨0, Nat.zero_le _, rfl, PA, HP3.out⟩
          case round =>
            clear PA HP3
            obtain ⟨k, hk, rfl, PA, hP⟩ := hrel
            by_cases hltk : k < n2
            · have HP := Lib.hid hP
              have hb0 : Below w1.heap.size w1 wr := by obtain ⟨_, _, _, -, -, -, -, -, h⟩ := hP; exact h
              have HBW := Lib.hid (HB1.out.trans (hb0.mono HB1.out.size))
              clear hP hb0
              obtain ⟨b1, eb1, -, HU⟩ := HUK.out k hltk _ HBW.out
              injection eb1 with eb1
              subst eb1
              have HCk := Lib.hid (HCK.out k hltk)
              have HBk := Lib.hid (HBAD0.out k)
              have HPk := Lib.hid (HPR0.out k)
              have hgk := HG.out k hltk
              have hck := HC.out k hltk
              obtain ⟨U, hU⟩ : ∃ U, vs.getD k noCargo = U := ⟨_, rfl⟩
              obtain ⟨ck, hck9⟩ : ∃ z, cs.getD k 0 = z := ⟨_, rfl⟩
              rw [hU] at HU HBk HPk hgk
              rw [hck9] at HCk HBk hck
              clear hU hck9
              obtain ⟨dk, lk, qk⟩ := U
              have HPR : Hid (prP vs i k = (di, dk)) := HPk
              obtain ⟨u0, u1, u2⟩ := HU
              obtain ⟨hgk0, hgk1, hgk2⟩ := hgk
              dsimp only at u0 u1 u2 hgk0 hgk1 hgk2
              have hk0 : (0 : Int) ≤ (k : Int) := by omega
              have hk1 : (k : Int) < (n2 : Int) := by omega
              obtain ⟨xi, hxi⟩ : ∃ g, wr.heap.size = g := ⟨_, rfl⟩
              obtain ⟨wi, hwi⟩ : ∃ W, wr.alloc (.cells #[.int .i64 dk, .int .i64 lk, .int .i64 qk] 54) = W := ⟨_, rfl⟩
              have PB : Hid (BoxC wi xi dk lk qk) := Lib.hid (by rw [← hwi, ← hxi]; exact BoxC.new wr dk lk qk)
              have PA2 : Hid (BoxC wi xb di li qi) := Lib.hid (by rw [← hwi]; exact PA.out.all (below1 _ _))
              have HPi : Hid (QOwn w1 wi vs cs n2 i k _) := Lib.hid (by rw [← hwi]; exact HP.out.below (below1 _ _))
              have HBi : Hid (Below w.heap.size w wi) := Lib.hid (by rw [← hwi]; exact HBW.out.trans ((below1 _ _).mono HBW.out.size))
              obtain ⟨b2, eb2, -, c3⟩ := HCI.out _ HBi.out
              injection eb2 with eb2
              subst eb2
              obtain ⟨b2, eb2, -, c4⟩ := HCk.out _ HBi.out
              injection eb2 with eb2
              subst eb2
              have C3 := fun (d : Nat) (os : Array Obj) => cell_regrown c3 d os
              have C4 := fun (d : Nat) (os : Array Obj) => cell_regrown c4 d os
              have A0 := fun (d : Nat) (os : Array Obj) => cell_regrown PA2.out.c0 d os
              have A1 := fun (d : Nat) (os : Array Obj) => cell_regrown PA2.out.c1 d os
              have A2 := fun (d : Nat) (os : Array Obj) => cell_regrown PA2.out.c2 d os
              have B0 := fun (d : Nat) (os : Array Obj) => cell_regrown PB.out.c0 d os
              have B1 := fun (d : Nat) (os : Array Obj) => cell_regrown PB.out.c1 d os
              have B2' := fun (d : Nat) (os : Array Obj) => cell_regrown PB.out.c2 d os
              have D1 := Lib.hid (fun W => CB.out di li qi ci dk lk qk ck hgi1 hgk1 hci hck W)
              have D2 := Lib.hid (fun W => CG.out di li qi dk lk qk hgi2 hgk2 W)
              generalize betZ ⟨di, li, qi⟩ ⟨dk, lk, qk⟩ ci ck = bz at D1 HBk
              have HBk' : Hid (badP vs cs i k = decide (di < dk ∧ bz < gapZ qi qk)) := HBk
              generalize gapZ qi qk = gz at D2 HBk'
              have d1 := fun (dr : Nat) (os : Array Obj) => Calls.regrown_of (w := wi) (d := dr) (os := os) (D1.out _)
              have d2 := fun (dr : Nat) (os : Array Obj) => Calls.regrown_of (w := wi) (d := dr) (os := os) (D2.out _)
              clear HPk HBk c3 c4 D1 D2 PA HP HBW HUK HCK HCk HCI HBAD0 HPR0
              by_cases hid : di < dk
              · have r1 : decide (di < dk) = true := decide_eq_true hid
                by_cases hgap : bz < gz
                · have HBAD : Hid (badP vs cs i k = true) := Lib.hid (by rw [HBk'.out]; exact decide_eq_true ⟨hid, hgap⟩)
                  clear HBk' hid
                  go_wp2_with fail
                  try rw [hwi]
                  try rw [hxi]
                  clear hwi hxi u0 u1 u2
                  refine wp_region_quiet_below (by kernel_rfl) (by kernel_rfl) ?_
                  repeat (first | go_big_quiet_step (first | with_reducible exact d1 _ _ | with_reducible exact d2 _ _) | rw [r1])
                  refine wpQuiet_nil ?_
                  intro _ hw'
                  obtain ⟨⟨dq, osq⟩, hw''⟩ := hw'
                  subst hw''
                  have HBt := Lib.hid (HBi.out.trans ((below_regrown wi dq osq).mono HBi.out.size))
                  have HPt := Lib.hid (HPi.out.below (below_regrown wi dq osq))
                  have PAt := Lib.hid (PA2.out.all (below_regrown wi dq osq))
                  have PBt := Lib.hid (PB.out.all (below_regrown wi dq osq))
                  obtain ⟨wt, hwt⟩ : ∃ W, grow (redrawn wi dq) osq = W := ⟨_, rfl⟩
                  rw [hwt] at HPt PAt PBt HBt
                  try simp only [hwt]
                  clear hwt C3 C4 A0 A1 A2 B0 B1 B2' d1 d2 r1 HPi PA2 PB HBi
                  obtain ⟨g0, cp, M, rfl, hM1, hg0, hown, hea, hb⟩ := HPt.out
                  have hM42 := QOwn.len hM1 (by omega) hk hn6
                  have HM1 := Lib.hid hM1
                  have HEA := Lib.hid hea
                  have a0 := PAt.out.c0
                  have b0 := PBt.out.c0
                  have hgl := (hown.lt g0 rfl).2
                  have HXB : Hid (xb ≠ g0) := Lib.hid (PAt.out.ne hown (by decide))
                  clear hM1 hea HPt
                  go_wp2_with (at_builtin; go_loud (refine wpList_append_own _ rfl (.tmp 64) (.tmp 70) 50 rfl w1.heap.size 25 j0 (.slice none 0 0) 1 24 Try.underlying50 hj hy0 hy1 hy2 rfl (by decide) (.slice (some ⟨g0, 0, none⟩) M.length cp) M.length _ rfl ((hown.alloc _).alloc _) ⟨wt.heap.size + 1, 0, none⟩ 1 1 [.slice (some ⟨wt.heap.size, 0, none⟩) 2 2] rfl rfl (cell_new2 wt _ _ _) (by simp [Value.oneCell']) (by unfold maxLen; omega) (by omega) (by have := hb.size; simp; omega) ?_; intro v1 w9 hown1 hgrow1 hnil1; obtain ⟨g1, c1, rfl, hg1⟩ := own_some hown1 (fun e => nomatch (hnil1.1 e).1); have HQ := Lib.hid (QOwn.more (t := 3) (o2 := (.cells #[.slice (some ⟨wt.heap.size, 0, none⟩) 2 2] 25)) HM1.out hown HEA.out hb hg0 HBAD.out HPR.out hgrow1 hg1 hown1); have PA9 := Lib.hid ((PAt.out.all (below2 wt (.cells #[.int .i64 di, .int .i64 dk] 3) (.cells #[.slice (some ⟨wt.heap.size, 0, none⟩) 2 2] 25))).kept hgrow1 (fun e => HXB.out (Option.some.inj e))); clear hown hnil1 hgrow1 hown1 hb a0 b0))
                  go_roundw
                  case rel => exact ⟨k + 1, by omega, by go_num, PA9, HQ.out⟩
                  case measure => simp [intOf]; omega
                · have HNX := Lib.hid (HPi.out.no (by rw [HBk'.out]; exact decide_eq_false (fun h => hgap h.2)))
                  clear HBk' hid
                  go_wp2_with fail
                  try rw [hwi]
                  try rw [hxi]
                  clear hwi hxi u0 u1 u2
                  refine wp_region_quiet_below (by kernel_rfl) (by kernel_rfl) ?_
                  repeat (first | go_big_quiet_step (first | with_reducible exact d1 _ _ | with_reducible exact d2 _ _) | rw [r1])
                  refine wpQuiet_nil ?_
                  intro _ hw'
                  obtain ⟨⟨dq, osq⟩, hw''⟩ := hw'
                  subst hw''
                  have HBt := Lib.hid (HBi.out.trans ((below_regrown wi dq osq).mono HBi.out.size))
                  have HPt := Lib.hid (HNX.out.below (below_regrown wi dq osq))
                  have PAt := Lib.hid (PA2.out.all (below_regrown wi dq osq))
                  clear C3 C4 A0 A1 A2 B0 B1 B2' d1 d2 r1 HPi PA2 PB HBi HNX
                  go_wp2_with fail
                  go_roundw
                  case rel => exact ⟨k + 1, by omega, by go_num, PAt, HPt.out⟩
                  case measure => simp [intOf]; omega
              · have r1 : decide (di < dk) = false := decide_eq_false hid
                have HNX := Lib.hid (HPi.out.no (by rw [HBk'.out]; exact decide_eq_false (fun h => hid h.1)))
                clear HBk' hid
                go_wp2_with fail
                try rw [hwi]
                try rw [hxi]
                clear hwi hxi u0 u1 u2
                refine wp_region_quiet_below (by kernel_rfl) (by kernel_rfl) ?_
                repeat (first | go_big_quiet_step (first | fail) | rw [r1])
                refine wpQuiet_nil ?_
                intro _ hw'
                obtain ⟨⟨dq, osq⟩, hw''⟩ := hw'
                subst hw''
                have HBt := Lib.hid (HBi.out.trans ((below_regrown wi dq osq).mono HBi.out.size))
                have HPt := Lib.hid (HNX.out.below (below_regrown wi dq osq))
                have PAt := Lib.hid (PA2.out.all (below_regrown wi dq osq))
                clear C3 C4 A0 A1 A2 B0 B1 B2' d1 d2 r1 HPi PA2 PB HBi HNX
                go_wp2_with fail
                go_roundw
                case rel => exact ⟨k + 1, by omega, by go_num, PAt, HPt.out⟩
                case measure => simp [intOf]; omega
            · obtain rfl : k = n2 := by omega
              have HPN := Lib.hid hP.next
              clear hP PA
              go_wp2_with fail
              go_roundw
              case rel => exact ⟨i + 1, by omega, by go_num, HPN.out⟩
              case measure => simp [intOf]; omega
        · obtain rfl : i = n2 := by omega
          obtain ⟨g0, cp, M, rfl, hM1, hg0, hown, hea, hb⟩ := hP
          have hM42 := QOwn.len hM1 (by omega) (Nat.zero_le _) hn6
          have CS := Lib.hid (sortP_any rfl (by omega) hown hea)
          have HM1 := Lib.hid hM1
          have HEA := Lib.hid hea
          have HB9 := Lib.hid hb
          have HOW := Lib.hid hown
          have hgl := (hown.lt g0 rfl).2
          clear hown hea hM1 hb CB CG HG HC H2
          go_wp2_with fail
          refine CS.out.mono ?_
          rintro e w3 ⟨rfl, N, hp, ho, hown, hgr⟩
          have HF : Hid (GivesP w L true (.returned (.tuple #[.slice (some ⟨g0, 0, none⟩) M.length cp, .bool true])) w3) := Lib.hid (by
            have hnl : N.length = M.length := hp.length_eq
            have hea3 : EachPr w1.heap.size w3 N := (HEA.out.kept hgr (fun p hq => (HEA.out.box p hq).2.ne HOW.out (by decide))).perm hp
            refine ⟨g0, cp, N, by rw [hnl], ?_, by rw [hnl]; exact own_low hown HB1.out.size, ⟨fun p hq => ⟨Nat.le_trans HB1.out.size (hea3.box p hq).1, (hea3.box p hq).2⟩, hea3.dif⟩, ?_⟩
            · refine pairs_one (vs := vs) (cs := cs) ⟨?_, ho⟩ HLA.out
              have h9 := HM1.out
              rw [rowP, List.append_nil] at h9
              rw [HI.out.len]
              exact (hp.map _).trans h9
            · exact HB1.out.trans ((HB9.out.grown hgr HB9.out.size (fun q e => by cases e; exact hg0)).mono HB1.out.size))
          clear hp ho hown hgr CS HEA HM1 HOW
          go_wp2_with fail
          refine bodyPost_ret (results_tmp2 rfl _ _ _) rfl ?_
          exact HF.out
    · rw [decide_eq_false hin] at CA1
      obtain ⟨rfl, rfl⟩ := HA.out.2 (fun k => hin k.2.2)
      clear HA hin
      go_wp2_with fail
      refine CA1.out.mono ?_
      rintro e w2 ⟨rfl, rfl⟩
      clear CA1
      go_wp2_with fail
      refine bodyPost_ret (results_tmp2 rfl _ _ _) rfl ?_
      exact gives_nil HB1.out
  · have hne : ((n2 : Int) != (n : Int)) = true := by simp; omega
    obtain ⟨rfl, rfl⟩ := HA.out.2 (fun k => hnn (by rw [← HL.out, k.2.1, HI.out.len]))
    clear HA CA hnn
    go_wp2_with fail
    refine bodyPost_ret (results_tmp2 rfl _ _ _) rfl ?_
    exact gives_nil HB1.out
end Go.Proofs.Ytgnopkemcgbedab
