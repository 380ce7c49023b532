/- Chapter 12: the search for the cheapest plan: the program. -/
import Derived.Test.YtdjoiodkmanacaaPuL
namespace Go.Proofs.Ytdjoiodkmanacaa
open Go.RowKit Go.PlainAid Go.Sort
set_option linter.unusedVariables false
set_option linter.unusedSimpArgs false

/-- The state of the search in its block. -/
def BoxS (W : World) (g : Nat) (a b c : Int) (A : Option Addr) (n q : Nat) (D : Option Addr) (m r pg pc : Nat) (bv : Value) (z : Int) : Prop :=
  W.heap[g]? = some (.cells #[.int .i64 a, .int .i64 b, .int .i64 c, .slice A n q, .slice D m r, .slice (some ⟨pg, 0, none⟩) n pc, bv, .int .i64 z] 81 (0, 0))
section
variable {W : World} {g : Nat} {a b c : Int} {A D : Option Addr} {n q m r pg pc : Nat} {bv : Value} {z : Int}
theorem BoxS.c0 (h : BoxS W g a b c A n q D m r pg pc bv z) : W.cell? ⟨g, 0, none⟩ = some (.int .i64 a) := cell_of_row W g 0 _ _ _ h
theorem BoxS.c1 (h : BoxS W g a b c A n q D m r pg pc bv z) : W.cell? ⟨g, 1, none⟩ = some (.int .i64 b) := cell_of_row W g 1 _ _ _ h
theorem BoxS.c2 (h : BoxS W g a b c A n q D m r pg pc bv z) : W.cell? ⟨g, 2, none⟩ = some (.int .i64 c) := cell_of_row W g 2 _ _ _ h
theorem BoxS.c3 (h : BoxS W g a b c A n q D m r pg pc bv z) : W.cell? ⟨g, 3, none⟩ = some (.slice A n q) := cell_of_row W g 3 _ _ _ h
theorem BoxS.c4 (h : BoxS W g a b c A n q D m r pg pc bv z) : W.cell? ⟨g, 4, none⟩ = some (.slice D m r) := cell_of_row W g 4 _ _ _ h
theorem BoxS.c5 (h : BoxS W g a b c A n q D m r pg pc bv z) : W.cell? ⟨g, 5, none⟩ = some (.slice (some ⟨pg, 0, none⟩) n pc) := cell_of_row W g 5 _ _ _ h
theorem BoxS.c6 (h : BoxS W g a b c A n q D m r pg pc bv z) : W.cell? ⟨g, 6, none⟩ = some bv := cell_of_row W g 6 _ _ _ h
theorem BoxS.c7 (h : BoxS W g a b c A n q D m r pg pc bv z) : W.cell? ⟨g, 7, none⟩ = some (.int .i64 z) := cell_of_row W g 7 _ _ _ h
theorem BoxS.fz (h : BoxS W g a b c A n q D m r pg pc bv z) (k : Nat) : W.frozen? ⟨g, k, none⟩ = false := frozen_of_row W g k _ _ h
theorem BoxS.lt (h : BoxS W g a b c A n q D m r pg pc bv z) : g < W.heap.size := (Array.getElem?_eq_some_iff.1 h).1
theorem BoxS.all {w' : World} (h : BoxS W g a b c A n q D m r pg pc bv z) (hb : Below W.heap.size W w') : BoxS w' g a b c A n q D m r pg pc bv z := (hb.block g h.lt).trans h
theorem BoxS.kept {w' : World} {row : Option Nat} (h : BoxS W g a b c A n q D m r pg pc bv z) (hg : W.grownBy w' row) (hne : some g ≠ row) : BoxS w' g a b c A n q D m r pg pc bv z := (hg.block g h.lt hne).trans h
theorem BoxS.sets (h : BoxS W g a b c A n q D m r pg pc bv z) (v : Value) (y : Int) : BoxS ((W.setCell ⟨g, 6, none⟩ v).setCell ⟨g, 7, none⟩ (.int .i64 y)) g a b c A n q D m r pg pc v y := by
  unfold BoxS at *
  simp [World.setCell, Array.getElem?_modify, h]
end
/-- The best plan so far. -/
def HoldB (W : World) (Bd pg : Nat) (bv : Value) (L : List Int) : Prop :=
  (L = [] ∧ bv = .slice none 0 0) ∨ ∃ gx cx, bv = .slice (some ⟨gx, 0, none⟩) L.length cx ∧ W.ownsRow Bd 3 1 (.slice (some ⟨gx, 0, none⟩) L.length cx) L.length (L.map (.int .i64)) ∧ gx ≠ pg
theorem HoldB.all {W W' : World} {Bd pg : Nat} {bv : Value} {L : List Int} (h : HoldB W Bd pg bv L) (hb : Below W.heap.size W W') : HoldB W' Bd pg bv L := by
  rcases h with h | ⟨gx, cx, h1, h2, h3⟩
  · exact .inl h
  · exact .inr ⟨gx, cx, h1, own_below h2 hb, h3⟩
theorem HoldB.row {W W' : World} {Bd pg : Nat} {bv : Value} {L : List Int} (h : HoldB W Bd pg bv L) (hg : W.grownBy W' (some pg)) : HoldB W' Bd pg bv L := by
  rcases h with h | ⟨gx, cx, h1, h2, h3⟩
  · exact .inl h
  · exact .inr ⟨gx, cx, h1, h2.kept hg (.inr (by simpa [Value.ownBlock] using h3)), h3⟩
theorem mid_set (P Q : List Int) (y x : Int) : (P ++ y :: Q).set P.length x = P ++ x :: Q := by
  rw [List.set_append_right _ _ (Nat.le_refl _), Nat.sub_self, List.set_cons_zero]
theorem mid_row (P Q : List Int) (y x : Int) : ((P ++ y :: Q).map (Value.int .i64)).set P.length (.int .i64 x) = (P ++ x :: Q).map (Value.int .i64) := by
  rw [← mid_set P Q y x, List.map_set]
theorem inX_mid {m : Nat} {P Q : List Int} {y x : Int} (h : inX m (P ++ y :: Q)) (hx : 0 ≤ x ∧ x ≤ topU m) : inX m (P ++ x :: Q) := by
  intro i hi
  by_cases e : i = P.length
  · subst e; rw [getD_mid]; exact hx
  · have h1 := h i (by simpa using hi)
    have e1 : (P ++ x :: Q).getD i 0 = (P ++ y :: Q).getD i 0 := by
      rw [← mid_set P Q y x, List.getD_eq_getElem?_getD, List.getD_eq_getElem?_getD, List.getElem?_set_ne (fun g => e g.symm)]
    rw [e1]; exact h1
theorem list_of_len0 {L : List Int} (h : L.length = 0) : L = [] := List.eq_nil_of_length_eq_zero h
set_option maxRecDepth 100000 in
set_option maxHeartbeats 8000000 in
theorem decide_any {B Bd g pg pc : Nat} {A D : Option Addr} {n m : Nat} {zs : List Int} {vs : List TPump} (a b c : Int) (q r : Nat) (hgd : goodT ⟨a, b, c, zs, vs⟩) (hzn : zs.length = n) (hvm : vs.length = m) (hB : B ≤ Bd) (hBg : Bd ≤ g) (hBp : Bd ≤ pg) (hgp : g ≠ pg) :
    ∀ (f : Nat) (P R : List Int) (k : Nat) (w : World) (bv : Value) (aL : List Int) (az : Int), IsTs w B A n zs D m vs → BoxS w g a b c A n q D m r pg pc bv az → HoldB w Bd pg bv aL →
      w.ownsRow Bd 3 1 (.slice (some ⟨pg, 0, none⟩) n pc) n ((P ++ R).map (.int .i64)) → P.length = k → k + f = n → inX m (P ++ R) → SafO ⟨a, b, c, zs, vs⟩ P → costU ⟨a, b, c, zs, vs⟩ P k < az → Bd ≤ w.heap.size →
    Calls Try.prog 71 #[.pointer (some ⟨g, 0, none⟩), .int .i64 k, .int .i64 (lvU ⟨a, b, c, zs, vs⟩ P k), .int .i64 (costU ⟨a, b, c, zs, vs⟩ P k)] w fun e w' => e = .returned (.tuple #[]) ∧ ∃ bv' R',
      BoxS w' g a b c A n q D m r pg pc bv' (stepU (aL, az) (bestU ⟨a, b, c, zs, vs⟩ (extsU (numM m) f P))).2 ∧ HoldB w' Bd pg bv' (stepU (aL, az) (bestU ⟨a, b, c, zs, vs⟩ (extsU (numM m) f P))).1 ∧
      w'.ownsRow Bd 3 1 (.slice (some ⟨pg, 0, none⟩) n pc) n ((P ++ R').map (.int .i64)) ∧ inX m (P ++ R') ∧ Below Bd w w' := by
  have hn5 : n ≤ 5 := by rw [← hzn]; exact hgd.2.1.2
  have hm2 : m ≤ 2 := by rw [← hvm]; exact hgd.2.2.1
  intro f
  induction f with
  | zero =>
    intro P R k w bv aL az hI hX hH hO hPl hkf hin hsf hc hBw
    have hkn : k = n := by omega
    have hR0 : R = [] := by
      have h1 := hO.1
      rw [List.length_map, List.length_append] at h1
      exact list_of_len0 (by omega)
    subst hR0
    rw [List.append_nil] at hO hin
    have hcp := costU_bd hgd P k
    have hE : stepU (aL, az) (bestU ⟨a, b, c, zs, vs⟩ (extsU (numM m) 0 P)) = (P, costU ⟨a, b, c, zs, vs⟩ P k) := by
      have h1 := bestU_one hgd hsf
      rw [hPl] at h1
      show stepU (aL, az) (bestU ⟨a, b, c, zs, vs⟩ [P]) = _
      rw [h1]
      unfold stepU
      exact if_pos ⟨hcp.1, .inr hc⟩
    rw [hE]
    dsimp only
    have C := Lib.hid (cloneZ_any pc (by omega) (own_IsIs hO))
    have HX := Lib.hid hX
    have HO := Lib.hid hO
    have HPL := Lib.hid (show P.length = n by omega)
    have HIN := Lib.hid (show inX m (P ++ []) by rw [List.append_nil]; exact hin)
    have hplt : pg < w.heap.size := (hO.lt pg rfl).2
    have hglt : g < w.heap.size := hX.lt
    have c5 := hX.c5
    have hke : ((k : Int) == (n : Int)) = true := by simp; omega
    generalize costU ⟨a, b, c, zs, vs⟩ P k = S at hcp hc ⊢
    generalize lvU ⟨a, b, c, zs, vs⟩ P k = LV
    clear hI hX hH hO hin hE hsf
    go_enter Try.func71, Try.ntmps71
    go_wp2_with fail
    refine C.out.mono ?_
    rintro e w1 ⟨v, rfl, hv⟩
    obtain ⟨g1, c1, rfl, hg1, hO1, hb1⟩ := hv
    have hX1 := HX.out.all hb1
    have HX1 := Lib.hid hX1
    have HO2 := Lib.hid (own_below HO.out hb1)
    have HO1 := Lib.hid hO1
    have HB1 := Lib.hid hb1
    have c6 := hX1.c6
    have c7 := hX1.c7
    have f6 := hX1.fz 6
    have f7 := hX1.fz 7
    clear C hO1 hb1 hX1 HO HX c5
    go_wp2_with fail
    refine bodyPost_ret (results_none rfl _ _ _) rfl ?_
    refine ⟨rfl, _, [], HX1.out.sets _ _, .inr ⟨g1, c1, by rw [HPL.out], ?_, by omega⟩, ?_, HIN.out, ?_⟩
    · rw [HPL.out]
      exact own_set (own_set (own_low HO1.out hBw) _ _ _ (by simp [Value.ownBlock]; omega)) _ _ _ (by simp [Value.ownBlock]; omega)
    · rw [List.append_nil]
      exact own_set (own_set HO2.out _ _ _ (by simp [Value.ownBlock]; omega)) _ _ _ (by simp [Value.ownBlock]; omega)
    · exact ((HB1.out.mono hBw).setCell (p := ⟨g, 6, none⟩) hBg _).setCell (p := ⟨g, 7, none⟩) hBg _
  | succ f ih =>
    intro P R k w bv aL az hI hX hH hO hPl hkf hin hsf hc hBw
    have HIH := Lib.hid ih
    have HIP : inX m P := fun j hj => by have := hin j (by rw [List.length_append]; omega); rwa [getD_pre P R hj] at this
    have HTW := Lib.hid (fun W (hb : Below Bd w W) => hI.below hb hB)
    have hcp := costU_bd hgd P k
    have HKE := Lib.hid (show bestU ⟨a, b, c, zs, vs⟩ (extKU (numM m) f P (numM m)) = bestU ⟨a, b, c, zs, vs⟩ (extsU (numM m) (f + 1) P) from by rw [extKU_end])
    have HKS := Lib.hid (fun k => extKU_succ (numM m) f P k)
    have HAP := Lib.hid (fun E F => bestU_append ⟨a, b, c, zs, vs⟩ E F)
    have hNum := numM_top m
    have hTop := topU_bd m
    have CG := Lib.hid (groups_any a b c A n q D m r hm2 w)
    obtain ⟨E, hE⟩ : ∃ E, stepU (aL, az) (bestU ⟨a, b, c, zs, vs⟩ (extsU (numM m) (f + 1) P)) = E := ⟨_, rfl⟩
    have HEND := Lib.hid hE
    rw [hE]
    rw [← HKE.out] at HEND
    have HLV := Lib.hid (lvU_snoc ⟨a, b, c, zs, vs⟩ P)
    have HCS := Lib.hid (costU_snoc ⟨a, b, c, zs, vs⟩ P)
    rw [hPl] at HLV HCS
    have hlb := lvU_bd hgd P k (by show k ≤ zs.length; omega)
    have HPL := Lib.hid hPl
    have HSF := Lib.hid hsf
    have HGD := Lib.hid hgd
    have HKE2 : Hid (stepU (aL, az) (bestU ⟨a, b, c, zs, vs⟩ (extKU (numM m) f P 0)) = (aL, az)) := Lib.hid (by
      rw [extKU_zero, bestU_nil]; exact stepU_none _ _ (by show (-1 : Int) < 0; omega))
    have haz : 0 ≤ az := by omega
    have HST := Lib.hid (fun E => (stepU_pos (a := (aL, az)) (b := E) haz))
    have HDE := Lib.hid (fun (acc : List Int × Int) (x : Int) (h0 : 0 ≤ acc.2) (h : acc.2 ≤ costU ⟨a, b, c, zs, vs⟩ (P ++ [x]) (k + 1)) => bestU_dear hgd (M := numM m) (f := f) (P := P ++ [x]) h0 (by rw [List.length_append, List.length_singleton, HPL.out]; exact h))
    have HBA := Lib.hid (fun (acc : List Int × Int) (x : Int) (h : ¬ SafO ⟨a, b, c, zs, vs⟩ (P ++ [x])) => show stepU acc (bestU ⟨a, b, c, zs, vs⟩ (extsU (numM m) f (P ++ [x]))) = acc from by
      rw [bestU_bad hgd h]; exact stepU_none _ _ (by show (-1 : Int) < 0; omega))
    have HSS := Lib.hid (fun (x : Int) => show SafO ⟨a, b, c, zs, vs⟩ (P ++ [x]) ↔ okL ⟨a, b, c, zs, vs⟩ (lvU ⟨a, b, c, zs, vs⟩ (P ++ [x]) (k + 1)) from by
      have h1 : (P ++ [x]).length = k + 1 := by rw [List.length_append, List.length_singleton, HPL.out]
      have h2 : safeN ⟨a, b, c, zs, vs⟩ (P ++ [x]) k ↔ safeN ⟨a, b, c, zs, vs⟩ P k := safeN_app (by rw [HPL.out]; exact Nat.le_refl _)
      have h3 : safeN ⟨a, b, c, zs, vs⟩ P k := by have := HSF.out; unfold SafO at this; rwa [HPL.out] at this
      unfold SafO
      rw [h1, safeN_succ, h2]
      exact ⟨fun g => g.2, fun g => ⟨h3, g⟩⟩)
    have hAfm := hvm
    obtain ⟨M, hM⟩ : ∃ M, numM m = M := ⟨_, rfl⟩
    rw [hM] at HIH HKE HKS hNum HEND HKE2 HDE HBA CG
    have hM4 : M ≤ 4 := by omega
    have HNUM := Lib.hid hNum
    obtain ⟨S, hS⟩ : ∃ S, costU ⟨a, b, c, zs, vs⟩ P k = S := ⟨_, rfl⟩
    obtain ⟨LV, hLV⟩ : ∃ LV, lvU ⟨a, b, c, zs, vs⟩ P k = LV := ⟨_, rfl⟩
    rw [hS] at HCS hcp hc ⊢
    rw [hLV] at HLV hlb ⊢
    have HX := Lib.hid hX
    have HH := Lib.hid hH
    have HO := Lib.hid hO
    have HIN := Lib.hid hin
    have c0 := hX.c0
    have c1 := hX.c1
    have c2 := hX.c2
    have c3 := hX.c3
    have c4 := hX.c4
    have c5 := hX.c5
    have hke : ((k : Int) == (n : Int)) = false := by simp; omega
    clear ih hI hX hH hO hin hsf hE hgd hM hS hLV HKE hNum hTop
    go_enter Try.func71, Try.ntmps71
    go_wp2_with fail
    refine CG.out.mono ?_
    rintro e w1 ⟨rfl, hb⟩
    have HX1 := Lib.hid (HX.out.all hb)
    have HH1 := Lib.hid (HH.out.all hb)
    have HO1 := Lib.hid (own_below HO.out hb)
    have HB1 := Lib.hid (hb.mono hBw)
    clear hb CG HX HH HO c0 c1 c2 c3 c4 c5
    go_wp2_with fail
    go_loopw [35] (fun i wr => ∃ (j : Nat) (bw : Value) (Q : List Int), j ≤ M ∧ i = .int .i64 j ∧ BoxS wr g a b c A n q D m r pg pc bw (stepU (aL, az) (bestU ⟨a, b, c, zs, vs⟩ (extKU M f P j))).2 ∧ HoldB wr Bd pg bw (stepU (aL, az) (bestU ⟨a, b, c, zs, vs⟩ (extKU M f P j))).1 ∧ wr.ownsRow Bd 3 1 (.slice (some ⟨pg, 0, none⟩) n pc) n ((P ++ Q).map (.int .i64)) ∧ Hid (inX m (P ++ Q)) ∧ Below Bd w wr) (fun i _ => M - (intOf i).toNat)
    case atStart => exact ⟨0, bv, R, Nat.zero_le _, rfl, by rw [HKE2.out]; exact HX1.out, by rw [HKE2.out]; exact HH1.out, HO1.out, HIN, HB1.out⟩
    case round =>
      clear HX1 HH1 HO1 HIN HKE2
      obtain ⟨j, bw, Q, hj, rfl, hX, hH, hO, hQ, hb⟩ := hrel
      by_cases hlt : j < M
      · have hl9 := hO.1
        rw [List.length_map, List.length_append] at hl9
        obtain ⟨y, Q', rfl⟩ : ∃ y Q', Q = y :: Q' := by
          cases Q with
          | nil => simp at hl9; omega
          | cons y Q' => exact ⟨y, Q', rfl⟩
        have hj0 : (0 : Int) ≤ (j : Int) := by omega
        have hj1 : (j : Int) < (M : Int) := by omega
        have hj3 : 0 ≤ (j : Int) ∧ (j : Int) ≤ 3 := by omega
        have hjt : 0 ≤ (j : Int) ∧ (j : Int) ≤ topU m := ⟨hj0, by have := HNUM.out; omega⟩
        have hk0 : (0 : Int) ≤ (k : Int) := by omega
        have hk1 : (k : Int) < (n : Int) := by omega
        have hkn : k < n := by omega
        have HQ2 := Lib.hid (inX_mid hQ.out hjt)
        have cK : wr.cell? ⟨pg, k, none⟩ = some (.int .i64 y) := by
          have := hO.cellAt k (by omega)
          rw [this, ← HPL.out]
          simp
        have fK := hO.frozenAt k
        have hst := hO.stored k (.int .i64 (j : Int))
        have hrow := hst.1
        have hPk := HPL.out
        rw [← hPk, mid_row, hPk] at hrow
        obtain ⟨W5, hW5⟩ : ∃ W, wr.setCell ⟨pg, k, none⟩ (.int .i64 (j : Int)) = W := ⟨_, rfl⟩
        rw [hW5] at hst hrow
        have hX5 := hX.kept hst.2 (fun e => hgp (by injection e))
        have hH5 := hH.row hst.2
        have hb5 : Below Bd w W5 := by rw [← hW5]; exact hb.setCell (p := ⟨pg, k, none⟩) hBp _
        have c5 := hX.c5
        have d0 := hX5.c0
        have d1 := hX5.c1
        have d2 := hX5.c2
        have d3 := hX5.c3
        have d4 := hX5.c4
        have HNX : Hid (stepU (aL, az) (bestU ⟨a, b, c, zs, vs⟩ (extKU M f P (j + 1))) = stepU (stepU (aL, az) (bestU ⟨a, b, c, zs, vs⟩ (extKU M f P j))) (bestU ⟨a, b, c, zs, vs⟩ (extsU M f (P ++ [(j : Int)])))) := Lib.hid (by rw [HKS.out, HAP.out, stepU_assoc])
        have hbz := (HST.out (bestU ⟨a, b, c, zs, vs⟩ (extKU M f P j))).1
        obtain ⟨acc, hacc⟩ : ∃ x, stepU (aL, az) (bestU ⟨a, b, c, zs, vs⟩ (extKU M f P j)) = x := ⟨_, rfl⟩
        rw [hacc] at hX5 hH5 HNX hbz
        obtain ⟨bL, bz⟩ := acc
        dsimp only at hX5 hH5 hbz
        have HX5 := Lib.hid hX5
        have HH5 := Lib.hid hH5
        have HO5 := Lib.hid hrow
        have HB5 := Lib.hid hb5
        have hzl := HLV.out (j : Int)
        have hze : outU ⟨a, b, c, zs, vs⟩ (j : Int) = sumU TPump.x0 vs (j : Int) m := by unfold outU; dsimp only; rw [hAfm]
        rw [hze] at hzl
        (try dsimp only at hzl)
        have C1 := Lib.hid (levelAfter_any a b c q r (HTW.out _ hb5) HGD.out LV k (j : Int) hkn (by omega) hj3)
        rw [← hzl] at C1
        have hcl := HCS.out (j : Int)
        have hhb := hcU_bd HGD.out (j : Int) (prevU P k)
        have C2 := Lib.hid (fun W (hb : Below Bd w W) (ho : W.ownsRow Bd 3 1 (.slice (some ⟨pg, 0, none⟩) n pc) n ((P ++ (j : Int) :: Q').map (.int .i64))) => costHour_any (w := W) a b c q r (HTW.out _ hb) HGD.out pc (own_IsIs ho) (by omega) (fun i => inX_all HQ2.out i) k hkn)
        have hg1 : (P ++ (j : Int) :: Q').getD k 0 = (j : Int) := by rw [← hPk]; exact getD_mid _ _ _
        have hg2 : prevU (P ++ (j : Int) :: Q') k = prevU P k := prevU_app _ _ _ (by omega)
        rw [hg1, hg2] at C2
        have CW := Lib.hid (fun W => isWithin_any a b c A n q D m r (lvU ⟨a, b, c, zs, vs⟩ (P ++ [(j : Int)]) (k + 1)) W)
        have HBAj := Lib.hid (fun (h : ¬ (a ≤ lvU ⟨a, b, c, zs, vs⟩ (P ++ [(j : Int)]) (k + 1) ∧ lvU ⟨a, b, c, zs, vs⟩ (P ++ [(j : Int)]) (k + 1) ≤ b)) => HBA.out (bL, bz) (j : Int) (fun g => h ((HSS.out (j : Int)).1 g)))
        have HDEj := Lib.hid (fun (h : bz ≤ costU ⟨a, b, c, zs, vs⟩ (P ++ [(j : Int)]) (k + 1)) => HDE.out (bL, bz) (j : Int) hbz h)
        have HCR := Lib.hid (fun W bw h1 h2 h3 (h4 : W.ownsRow Bd 3 1 (.slice (some ⟨pg, 0, none⟩) n pc) n ((P ++ (j : Int) :: Q').map (.int .i64))) (h5 : a ≤ lvU ⟨a, b, c, zs, vs⟩ (P ++ [(j : Int)]) (k + 1) ∧ lvU ⟨a, b, c, zs, vs⟩ (P ++ [(j : Int)]) (k + 1) ≤ b) h6 => HIH.out (P ++ [(j : Int)]) Q' (k + 1) W bw bL bz h1 h2 h3 (by rw [List.append_assoc]; exact h4) (by rw [List.length_append, List.length_singleton, hPk]) (by omega) (by rw [List.append_assoc]; exact HQ2.out) ((HSS.out (j : Int)).2 h5) h6)
        obtain ⟨Z, hZ⟩ : ∃ Z, lvU ⟨a, b, c, zs, vs⟩ (P ++ [(j : Int)]) (k + 1) = Z := ⟨_, rfl⟩
        have hzb : -10000 ≤ Z ∧ Z ≤ 10000 := by
          rw [← hZ]
          have := lvU_bd HGD.out (P ++ [(j : Int)]) (k + 1) (by show k + 1 ≤ zs.length; omega)
          omega
        rw [hZ] at C1 CW HBAj HCR
        obtain ⟨H, hH9⟩ : ∃ H, hcU ⟨a, b, c, zs, vs⟩ (j : Int) (prevU P k) = H := ⟨_, rfl⟩
        rw [hH9] at C2 hcl hhb
        rw [hcl] at HDEj HCR
        have hpb : Bd ≤ w.heap.size := hBw
        have HNXT := Lib.hid (HNX.out)
        have HCL := Lib.hid hcl
        clear hX hH hO hQ hst hrow hX5 hH5 hb hacc hzl hze hg1 hg2 hZ hH9 hcl HSF HBA HDE HSS HKS HAP HIH HLV HCS HST HEND HPL hl9 hPl
        go_wp2_with fail
        (try rw [hW5])
        clear hW5 c5 cK fK
        refine C1.out.mono ?_
        rintro e w2 ⟨rfl, hb⟩
        have hX6 := HX5.out.all hb
        have HX6 := Lib.hid hX6
        have HH6 := Lib.hid (HH5.out.all hb)
        have HO6 := Lib.hid (own_below HO5.out hb)
        have HB6 := Lib.hid (HB5.out.trans (hb.mono (Nat.le_trans hpb HB5.out.size)))
        clear hb hb5 C1 HX5 HH5 HO5 HB5 d0 d1 d2 d3 d4
        have d0 := hX6.c0
        have d1 := hX6.c1
        have d2 := hX6.c2
        have d3 := hX6.c3
        have d4 := hX6.c4
        have d5 := hX6.c5
        have E0 := fun (d : Nat) (os : Array Obj) => cell_regrown d0 d os
        have E1 := fun (d : Nat) (os : Array Obj) => cell_regrown d1 d os
        have E2 := fun (d : Nat) (os : Array Obj) => cell_regrown d2 d os
        have E3 := fun (d : Nat) (os : Array Obj) => cell_regrown d3 d os
        have E4 := fun (d : Nat) (os : Array Obj) => cell_regrown d4 d os
        have E5 := fun (d : Nat) (os : Array Obj) => cell_regrown d5 d os
        have k1 := fun (dr : Nat) (os : Array Obj) => Calls.regrown_of (w := w2) (d := dr) (os := os) (C2.out (grow (redrawn w2 dr) os) (HB6.out.trans ((below_regrown w2 dr os).mono (Nat.le_trans hpb HB6.out.size))) (own_below HO6.out (below_regrown w2 dr os)))
        clear hX6 C2 d0 d1 d2 d3 d4 d5
        go_wp2_with fail
        refine wp_region_quiet_below (by kernel_rfl) (by kernel_rfl) ?_
        repeat (go_big_quiet_step (first | exact k1 _ _))
        refine wpQuiet_nil ?_
        intro _ hw'
        obtain ⟨⟨dq, osq⟩, hw''⟩ := hw'
        subst hw''
        have hb7 := below_regrown w2 dq osq
        have hX7 := HX6.out.all hb7
        have HX7 := Lib.hid hX7
        have HH7 := Lib.hid (HH6.out.all hb7)
        have HO7 := Lib.hid (own_below HO6.out hb7)
        have HB7 := Lib.hid (HB6.out.trans (hb7.mono (Nat.le_trans hpb HB6.out.size)))
        clear k1 E0 E1 E2 E3 E4 E5 HX6 HH6 HO6 HB6 hb7
        generalize grow (redrawn w2 dq) osq = w3 at hX7 HX7 HH7 HO7 HB7
        have d0 := hX7.c0
        have d1 := hX7.c1
        have d2 := hX7.c2
        have d3 := hX7.c3
        have d4 := hX7.c4
        have CW3 := Lib.hid (CW.out w3)
        obtain ⟨bb, hbb⟩ : ∃ x, decide (a ≤ Z ∧ Z ≤ b) = x := ⟨_, rfl⟩
        rw [hbb] at CW3
        have HBB := Lib.hid hbb
        clear hX7 CW hbb
        go_wp2_with fail
        refine CW3.out.mono ?_
        rintro e w4 ⟨rfl, hb⟩
        have hX8 := HX7.out.all hb
        have HX8 := Lib.hid hX8
        have HH8 := Lib.hid (HH7.out.all hb)
        have HO8 := Lib.hid (own_below HO7.out hb)
        have HB8 := Lib.hid (HB7.out.trans (hb.mono (Nat.le_trans hpb HB7.out.size)))
        clear hb CW3 HX7 HH7 HO7 HB7 d0 d1 d2 d3 d4
        have d7 := hX8.c7
        clear hX8
        cases bb with
        | false =>
          have HE := Lib.hid (HNXT.out.trans (HBAj.out (of_decide_eq_false HBB.out)))
          clear HNXT HBAj HDEj HCR HBB HNX HCL
          go_wp2_with fail
          go_roundw
          case rel => exact ⟨j + 1, bw, (j : Int) :: Q', by omega, by go_num, by rw [HE.out]; exact HX8.out, by rw [HE.out]; exact HH8.out, HO8.out, HQ2, HB8.out⟩
          case measure => simp [intOf]; omega
        | true =>
          by_cases hlt2 : S + H < bz
          · have CR := HCR.out w4 bw (HTW.out _ HB8.out) HX8.out HH8.out HO8.out (of_decide_eq_true HBB.out) hlt2 (Nat.le_trans hpb HB8.out.size)
            obtain ⟨BB, hBB⟩ : ∃ x, stepU (bL, bz) (bestU ⟨a, b, c, zs, vs⟩ (extsU M f (P ++ [(j : Int)]))) = x := ⟨_, rfl⟩
            rw [hBB] at CR HNXT
            obtain ⟨BL, BZ⟩ := BB
            dsimp only at CR
            push_cast at CR
            have CR2 := Lib.hid CR
            clear HBAj HDEj HCR HBB HNX HCL hBB CR HX8 HH8 HO8
            go_wp2_with fail
            refine CR2.out.mono ?_
            rintro e w5 ⟨rfl, bv5, R5, hX, hH, hO, hin, hb⟩
            have HX9 := Lib.hid hX
            have HH9 := Lib.hid hH
            have HO9 := Lib.hid hO
            have HI9 := Lib.hid hin
            have HB9 := Lib.hid (HB8.out.trans hb)
            clear hX hH hO hin hb CR2 d7 HB8
            go_wp2_with fail
            go_roundw
            case rel => exact ⟨j + 1, bv5, (j : Int) :: R5, by omega, by go_num, by rw [HNXT.out]; exact HX9.out, by rw [HNXT.out]; exact HH9.out, by have := HO9.out; rwa [List.append_assoc] at this, Lib.hid (by have := HI9.out; rwa [List.append_assoc] at this), HB9.out⟩
            case measure => simp [intOf]; omega
          · have HE := Lib.hid (HNXT.out.trans (HDEj.out (by omega)))
            clear HNXT HBAj HDEj HCR HBB HNX HCL
            go_wp2_with fail
            go_roundw
            case rel => exact ⟨j + 1, bw, (j : Int) :: Q', by omega, by go_num, by rw [HE.out]; exact HX8.out, by rw [HE.out]; exact HH8.out, HO8.out, HQ2, HB8.out⟩
            case measure => simp [intOf]; omega
      · obtain rfl : M = j := by omega
        have hEE := HEND.out
        rw [hEE] at hX hH
        have HX9 := Lib.hid hX
        have HH9 := Lib.hid hH
        have HO9 := Lib.hid hO
        have HB9 := Lib.hid hb
        clear hX hH hO hb hEE HSF HBA HDE HSS HKS HAP HIH HLV HCS HST HEND HPL HGD HTW
        go_wp2_with fail
        go_end0
        exact ⟨rfl, bw, Q, HX9.out, HH9.out, HO9.out, hQ.out, HB9.out⟩
end Go.Proofs.Ytdjoiodkmanacaa
