/- Chapter 11: the best order: the model. -/
import Derived.Test.YtgnopkemcgbedaaPoJ
namespace Go.Proofs.Ytgnopkemcgbedaa
open Go.RowKit Go.PlainAid Go.Sort
set_option linter.unusedVariables false
set_option linter.unusedSimpArgs false

def OwnY (w w' : World) (L : List Int) (n : Nat) (v : Value) : Prop :=
  ∃ g c, v = .slice (some ⟨g, 0, none⟩) n c ∧ w.heap.size ≤ g ∧ w'.ownsRow w.heap.size 3 1 (.slice (some ⟨g, 0, none⟩) n c) n (L.map (.int .i64)) ∧ Below w.heap.size w w'
theorem OwnY.below {w w' W : World} {L : List Int} {n : Nat} {v : Value} (h : OwnY w w' L n v) (hb : Go.RowKit.Below w'.heap.size w' W) : OwnY w W L n v := by
  obtain ⟨g, c, rfl, h1, h2, h3⟩ := h
  exact ⟨g, c, rfl, h1, own_below h2 hb, h3.trans (hb.mono h3.size)⟩
theorem OwnY.low {w w' : World} {L : List Int} {n : Nat} {v : Value} (h : OwnY w w' L n v) : Go.RowKit.Below w.heap.size w w' := by
  obtain ⟨g, c, rfl, h1, h2, h3⟩ := h
  exact h3
theorem OwnY.base {w0 w w' : World} {L : List Int} {n : Nat} {v : Value} (h : OwnY w w' L n v) (hb : Go.RowKit.Below w0.heap.size w0 w) : OwnY w0 w' L n v := by
  obtain ⟨g, c, rfl, h1, h2, h3⟩ := h
  exact ⟨g, c, rfl, Nat.le_trans hb.size h1, own_low h2 hb.size, hb.trans (h3.mono hb.size)⟩
theorem OwnY.nil {w w0 : World} (hb : Below w.heap.size w w0) : OwnY w (w0.alloc (.cells #[] 3)) [] 0 (.slice (some ⟨w0.heap.size, 0, none⟩) 0 0) :=
  ⟨w0.heap.size, 0, rfl, hb.size, own_low (World.ownsRow_made w0 #[] 0 (Nat.le_refl _) (by unfold maxLen; omega) rfl) hb.size, hb.alloc hb.size _⟩
theorem OwnY.is {w w' : World} {L : List Int} {n : Nat} {v : Value} (h : OwnY w w' L n v) : ∃ g c, v = .slice (some ⟨g, 0, none⟩) n c ∧ IsIs w' w'.heap.size (some ⟨g, 0, none⟩) n L := by
  obtain ⟨g, c, rfl, h1, h2, h3⟩ := h
  exact ⟨g, c, rfl, own_IsIs h2⟩
set_option maxRecDepth 100000 in
set_option maxHeartbeats 2000000 in
theorem l1OwnP_any {w : World} {base g n c : Nat} {L : List Int} (hm : n ≤ 1000) (h : w.ownsRow base 3 1 (.slice (some ⟨g, 0, none⟩) n c) n (L.map (.int .i64))) :
    Calls Try.prog 90 #[.slice (some ⟨g, 0, none⟩) n c] w fun e w' => ∃ g1 c1, e = .returned (.slice (some ⟨g1, 0, none⟩) n c1) ∧ w.heap.size ≤ g1 ∧ w'.ownsRow w.heap.size 3 1 (.slice (some ⟨g1, 0, none⟩) n c1) n (L.map (.int .i64)) ∧ Below w.heap.size w w' := by
  obtain ⟨i0, hi, hz0, hz1, hz2⟩ := info_parts Try.infoInt'
  have HOWN : Hid ((w.alloc (.cells #[] 3)).ownsRow w.heap.size 3 1 (.slice (some ⟨w.heap.size, 0, none⟩) 0 0) 0 []) := Lib.hid (World.ownsRow_made w #[] 0 (Nat.le_refl _) (by unfold maxLen; omega) rfl)
  have HB := Lib.hid (below1 w (.cells #[] 3))
  have hl := h.1
  have HNEW : Hid (∀ j u, (L.map (Value.int .i64))[j]? = some u → (w.alloc (.cells #[] 3)).cell? ((⟨g, 0, none⟩ : Addr).add j) = some u) := Lib.hid (fun j u hu => by
    have hj := (List.getElem?_eq_some_iff.1 hu).1
    rw [addO, Nat.zero_add]
    have h1 := h.cellAt j (by have := h.1; omega)
    rw [hu] at h1
    exact (HB.out.cell (World.block_lt_of_cell? _ _ h1)).trans h1)
  have HXO : Hid (∀ u ∈ L.map (Value.int .i64), u.oneCell' = true) := Lib.hid (fun u hu => by obtain ⟨q, -, rfl⟩ := List.mem_map.1 hu; rfl)
  have HLL := Lib.hid hl
  clear h hl
  generalize L.map (Value.int .i64) = xs at HNEW HXO HLL ⊢
  go_enter Try.func90, Try.ntmps90
  go_wp2_with (at_builtin; refine wpList_append_own _ rfl (.tmp 3) (.tmp 4) 43 rfl w.heap.size 3 i0 (.int .i64 0) 1 8 Try.underlying43 hi hz0 hz1 hz2 rfl (by decide) (.slice (some ⟨w.heap.size, 0, none⟩) 0 0) 0 _ rfl HOWN.out ⟨g, 0, none⟩ n c xs rfl HLL.out HNEW.out HXO.out (by unfold maxLen; omega) (by omega) HB.out.size ?_; intro v1 w1 hown1 hgrow1 hnil1; obtain ⟨g1, c1, rfl, hg1⟩ := own_some hown1 (fun e => nomatch (hnil1.1 e).1); have hb1 := HB.out.grown hgrow1 HB.out.size (fun q hq => by cases hq; exact Nat.le_refl _); clear hnil1 hgrow1)
  rw [Nat.zero_add, List.nil_append] at hown1
  have HF := Lib.hid (And.intro hg1 (And.intro hown1 hb1))
  clear hown1 hb1 hg1
  go_ret
  exact ⟨g1, c1, by simp, HF.out.1, HF.out.2.1, HF.out.2.2⟩
/-- One order: it is possible, or it is not. -/
theorem okE_one {vs : List TPool} {P : List Int} (hg : goodPs vs) (ho : okO vs.length P) (hl : P.length ≤ 4) : okE vs [P] ↔ canR vs P true :=
  ⟨fun h => ⟨hg, ho, (h P (by simp)).2.2⟩, fun h O hO => by simp at hO; subst hO; exact ⟨ho, hl, h.2.2⟩⟩
theorem okE_append {vs : List TPool} {E F : List (List Int)} : okE vs (E ++ F) ↔ okE vs E ∧ okE vs F := by
  unfold okE
  constructor
  · intro h
    exact ⟨fun O hO => h O (List.mem_append_left _ hO), fun O hO => h O (List.mem_append_right _ hO)⟩
  · rintro ⟨h1, h2⟩ O hO
    rcases List.mem_append.1 hO with h | h
    · exact h1 O h
    · exact h2 O h
theorem okE_sub {vs : List TPool} {m f k : Nat} {P : List Int} (hk : k < m) (hp : ((k : Int) + 1) ∉ P) (h : okE vs (extsG m (f + 1) P)) : okE vs (extsG m f (P ++ [(k : Int) + 1])) := fun O hO => h O (mem_extsG_succ.2 ⟨k, hk, hp, hO⟩)
/-- What a search from P answers. -/
def BstA (vs : List TPool) (E : List (List Int)) (L : List Int) (z : Int) : Prop := (okE vs E → (L, z) = bestL vs E) ∧ (¬ okE vs E → z = -1)
set_option maxRecDepth 100000 in
set_option maxHeartbeats 8000000 in
theorem l11Best_any {B : Nat} {a : Addr} {n : Nat} {vs : List TPool} (c : Nat) (hg : goodPs vs) (hn : vs.length = n) : ∀ (f : Nat) (P : List Int) (w : World) (gb nb cb Bd : Nat), IsPools w B (some a) n vs → w.ownsRow Bd 3 1 (.slice (some ⟨gb, 0, none⟩) nb cb) nb (P.map (.int .i64)) → Bd ≤ w.heap.size → okO n P → un P (n - 1) = f → nb + f + 1 = n →
    Calls Try.prog 78 #[.slice (some a) n c, .slice (some ⟨gb, 0, none⟩) nb cb] w fun e w' => ∃ gx cx q L z, e = .returned (.tuple #[.slice (some ⟨gx, 0, none⟩) q cx, .int .i64 z]) ∧
      w'.ownsRow Bd 3 1 (.slice (some ⟨gx, 0, none⟩) q cx) q (L.map (.int .i64)) ∧ Below w.heap.size w w' ∧ BstA vs (extsG (n - 1) f P) L z := by
  intro f
  induction f with
  | zero =>
    intro P w gb nb cb Bd hI hR hBd hok hun hnf
    have hPl : P.length = nb := by have := hR.1; simpa using this
    have hn5 : n ≤ 5 := by rw [← hn]; exact hg.1.2
    obtain ⟨L, z, x, hA⟩ := runP_ex vs P true
    have hcap : nb ≤ cb := own_capP hR
    have C := Lib.hid (l11Run_any true c cb hI (by omega) (own_IsIs hR) (by omega) hcap L z x hA L.length rfl)
    have HR := Lib.hid hR
    have HE : Hid (okE vs [P] ↔ canR vs P true) := Lib.hid (okE_one hg (by rw [hn]; exact hok) (by omega))
    have HY := Lib.hid hA.1
    have HN := Lib.hid hA.2
    have HP : Hid (canR vs P true → bestL vs [P] = (P, runZ vs P true P.length)) := Lib.hid (fun h => bestL_one (by have := (h.zbd P.length (Nat.le_refl _)).1; exact this))
    have hbe : ((nb : Int) == (n : Int) - 1) = true := by simp; omega
    clear hA hI hR hok hPl
    go_enter Try.func78, Try.ntmps78
    go_wp2_with fail
    refine C.out.mono ?_
    rintro e w1 ⟨g, cg, rfl, -, hb⟩
    have HB := Lib.hid hb
    have HR1 := Lib.hid (own_below HR.out hb)
    clear C HR hb
    by_cases hcan : canR vs P true
    · obtain ⟨-, hz, rfl⟩ := HY.out hcan
      have HA : Hid (BstA vs (extsG (n - 1) 0 P) P z) := Lib.hid ⟨fun _ => by show (P, z) = bestL vs [P]; rw [HP.out hcan, hz], fun h => absurd (HE.out.2 hcan) h⟩
      clear HY HN HP HE hcan hz
      go_wp2_with fail
      go_ret2
      exact ⟨gb, cb, nb, P, z, rfl, HR1.out, HB.out, HA.out⟩
    · obtain ⟨-, -, rfl⟩ := HN.out hcan
      have HA : Hid (BstA vs (extsG (n - 1) 0 P) P (-1)) := Lib.hid ⟨fun h => absurd (HE.out.1 h) hcan, fun _ => rfl⟩
      clear HY HN HP HE hcan
      go_wp2_with fail
      go_ret2
      exact ⟨gb, cb, nb, P, -1, rfl, HR1.out, HB.out, HA.out⟩
  | succ f ih =>
    intro P w gb nb cb Bd hI hR hBd hok hun hnf
    obtain ⟨i0, hi, hz0, hz1, hz2⟩ := info_parts Try.infoInt'
    have hPl : P.length = nb := by have := hR.1; simpa using this
    have hn5 : n ≤ 5 := by rw [← hn]; exact hg.1.2
    have HIH := Lib.hid ih
    have HI := Lib.hid hI
    have HR := Lib.hid hR
    have HG := Lib.hid hg
    have HOK := Lib.hid hok
    have HUN := Lib.hid hun
    obtain ⟨m, hm⟩ : ∃ m, n - 1 = m := ⟨_, rfl⟩
    rw [hm] at HIH HUN hun ⊢
    have hm1 : m + 1 = n := by omega
    have hnb : ((nb : Int) == (n : Int) - 1) = false := by simp; omega
    have CN := Lib.hid (fun (k : Nat) (W : World) (hb : Below w.heap.size w W) => l1HasP_any cb ((k : Int) + 1) (by omega) ((own_IsIs hR).below hb (Nat.le_refl _)))
    have HXO := Lib.hid (fun (k : Nat) (hp : ((k : Int) + 1) ∉ P) (hk : k < m) => And.intro (extsG_ne (m := m) (f := f) (P := P ++ [(k : Int) + 1]) (by have := un_snoc hp m; rw [if_pos hk] at this; omega)) (okO_snoc (n := n) hok (by omega) hp))
    have HUS := Lib.hid (fun (k : Nat) (hp : ((k : Int) + 1) ∉ P) (hk : k < m) => show un (P ++ [(k : Int) + 1]) m = f by have := un_snoc hp m; rw [if_pos hk] at this; omega)
    have HEND : Hid (extKG m f P m = extsG m (f + 1) P) := Lib.hid (extKG_end m f P)
    have HST := Lib.hid (show (w.alloc (.cells #[] 3)).ownsRow Bd 3 1 (.slice (some ⟨w.heap.size, 0, none⟩) 0 0) 0 ([] : List Value) from own_low (World.ownsRow_made w #[] 0 (Nat.le_refl _) (by unfold maxLen; omega) rfl) hBd)
    have HM1 := Lib.hid hm1
    clear ih hI hR hg hok hun hPl hm
    go_enter Try.func78, Try.ntmps78
    go_wp2_with fail
    go_loopw [9, 10, 11] (fun v z i wr => ∃ k : Nat, k ≤ m ∧ i = .int .i64 ((k : Int) + 1) ∧ z = .int .i64 (bestL vs (extKG m f P k)).2 ∧ (∃ gx cx q, v = .slice (some ⟨gx, 0, none⟩) q cx ∧ wr.ownsRow Bd 3 1 (.slice (some ⟨gx, 0, none⟩) q cx) q ((bestL vs (extKG m f P k)).1.map (.int .i64))) ∧ Hid (okE vs (extKG m f P k)) ∧ Below w.heap.size w wr) (fun _ _ i _ => n - (intOf i).toNat)
    case atStart => exact ⟨0, Nat.zero_le _, rfl, by rw [extKG_zero, bestL_nil], ⟨_, _, _, rfl, by rw [extKG_zero, bestL_nil]; exact HST.out⟩, Lib.hid (fun O hO => by rw [extKG_zero] at hO; cases hO), (Below.refl _ _).alloc (Nat.le_refl _) _⟩
    case round =>
      obtain ⟨k, hk, rfl, rfl, ⟨gx, cx, q, rfl, hX⟩, HE0, hb⟩ := hrel
      have HX := Lib.hid hX
      have HB := Lib.hid hb
      clear hX hb HST
      by_cases hlt : k < m
      · have hk0 : (0 : Int) ≤ (k : Int) := by omega
        have hk1 : (k : Int) + 1 < (n : Int) := by omega
        obtain ⟨acc, hacc⟩ : ∃ x, bestL vs (extKG m f P k) = x := ⟨_, rfl⟩
        have HAC := Lib.hid hacc
        rw [hacc] at HX ⊢
        clear hacc
        obtain ⟨aR, az⟩ := acc
        dsimp only at HX ⊢
        have CNk := Lib.hid (CN.out k _ HB.out)
        obtain ⟨M, hM⟩ : ∃ M, P.contains ((k : Int) + 1) = M := ⟨_, rfl⟩
        rw [hM] at CNk
        have HM : Hid (M = true ↔ ((k : Int) + 1) ∈ P) := Lib.hid (by rw [← hM]; simp)
        clear hM
        go_wp2_with fail
        refine CNk.out.mono ?_
        rintro e w2 ⟨rfl, rfl⟩
        clear CNk
        cases M with
        | true =>
          have HE := Lib.hid (extKG_no (m := m) (f := f) (P := P) (k := k) (HM.out.1 rfl))
          go_wp2_with fail
          go_roundw
          case rel => exact ⟨k + 1, by omega, by go_num, by rw [HE.out, HAC.out], ⟨gx, cx, q, rfl, by rw [HE.out, HAC.out]; exact HX.out⟩, Lib.hid (by rw [HE.out]; exact HE0.out), HB.out⟩
          case measure => simp [intOf]; omega
        | false =>
          have hnot : ((k : Int) + 1) ∉ P := fun h => by have := HM.out.2 h; cases this
          have HE := Lib.hid (extKG_yes (m := m) (f := f) (P := P) (k := k) hnot)
          have HNE := Lib.hid (HXO.out k hnot hlt)
          have HUK := Lib.hid (HUS.out k hnot hlt)
          have HSUB := Lib.hid (fun h => okE_sub (vs := vs) (m := m) (f := f) (k := k) (P := P) hlt hnot h)
          have HSB := Lib.hid (fun hF => bestL_append (vs := vs) (E := extKG m f P k) (F := extsG m f (P ++ [(k : Int) + 1])) HG.out hF HNE.out.1)
          have HPS := Lib.hid (fun hF => (bestL_pos HG.out (vs := vs) (E := extsG m f (P ++ [(k : Int) + 1])) hF HNE.out.1).1)
          have HRb := Lib.hid (own_below HR.out HB.out)
          have CO := Lib.hid (l1OwnP_any (by omega) HRb.out)
          clear HM hnot
          go_wp2_with fail
          refine CO.out.mono ?_
          rintro e w3 ⟨g0, cp, rfl, hg0, hown, hb⟩
          clear CO
          have HBD := Lib.hid (Nat.le_trans hBd HB.out.size)
          go_wp2_with (at_builtin; refine wpList_append_own _ rfl (.tmp 44) (.tmp 46) 43 rfl wr.heap.size 3 i0 (.int .i64 0) 1 8 Try.underlying43 hi hz0 hz1 hz2 rfl (by decide) (.slice (some ⟨g0, 0, none⟩) (nb) cp) (nb) _ rfl (hown.alloc _) ⟨w3.heap.size, 0, none⟩ 1 1 [.int .i64 ((k : Int) + 1)] rfl rfl (cell_one_new _ _ _) (by simp [Value.oneCell']) (by unfold maxLen; omega) (by omega) (by have := (hb).size; simp; omega) ?_; intro v1 w1 hown1 hgrow1 hnil1; obtain ⟨g1, c1, rfl, hg1⟩ := own_some hown1 (fun e => nomatch (hnil1.1 e).1); have hb1 := ((hb).alloc (hb).size (.cells #[.int .i64 ((k : Int) + 1)] 3)).grown hgrow1 (by have := (hb).size; simp; omega) (fun q hq => by cases hq; assumption); clear hnil1 hgrow1 hown hb)
          have HX4 := Lib.hid (own_below HX.out hb1)
          have HB4 := Lib.hid (HB.out.trans (hb1.mono HB.out.size))
          have CR := Lib.hid (HIH.out (P ++ [(k : Int) + 1]) w1 g1 (nb + 1) c1 Bd (HI.out.below HB4.out HI.out.low) (own_low (by rw [List.map_append]; exact hown1) HBD.out) (Nat.le_trans HBD.out hb1.size) HNE.out.2 HUK.out (by omega))
          clear hb1 hown1 HX HRb hg0 hg1
          refine CR.out.mono ?_
          rintro e w5 ⟨gy, cy, qy, L9, z9, rfl, hY, hb5, hA9⟩
          have HX5 := Lib.hid (own_below HX4.out hb5)
          have HB5 := Lib.hid (HB4.out.trans (hb5.mono HB4.out.size))
          have HY := Lib.hid hY
          have HA9 := Lib.hid hA9
          clear hb5 hY CR HX4 hA9
          by_cases hF : okE vs (extsG m f (P ++ [(k : Int) + 1]))
          · have hbF := HA9.out.1 hF
            have hps := HPS.out hF
            have hsb := HSB.out hF
            rw [← hbF] at hps hsb
            rw [← HE.out, HAC.out] at hsb
            have HSB2 : Hid (bestL vs (extKG m f P (k + 1)) = if az < z9 then (L9, z9) else (aR, az)) := Lib.hid hsb
            have HE1 : Hid (okE vs (extKG m f P (k + 1))) := Lib.hid (by rw [HE.out]; exact okE_append.2 ⟨HE0.out, hF⟩)
            dsimp only at hps
            clear HSB HA9 HPS HSUB hbF hsb hF HE HAC HE0
            by_cases h1 : az < z9
            · rw [if_pos h1] at HSB2
              go_wp2_with fail
              go_roundw
              case rel => exact ⟨k + 1, by omega, by go_num, by rw [HSB2.out], ⟨_, _, _, rfl, by rw [HSB2.out]; exact HY.out⟩, HE1, HB5.out⟩
              case measure => simp [intOf]; omega
            · rw [if_neg h1] at HSB2
              go_wp2_with fail
              go_roundw
              case rel => exact ⟨k + 1, by omega, by go_num, by rw [HSB2.out], ⟨_, _, _, rfl, by rw [HSB2.out]; exact HX5.out⟩, HE1, HB5.out⟩
              case measure => simp [intOf]; omega
          · obtain rfl : z9 = -1 := HA9.out.2 hF
            have HA : Hid (BstA vs (extsG m (f + 1) P) aR (-1)) := Lib.hid ⟨fun h => absurd (HSUB.out h) hF, fun _ => rfl⟩
            clear HSB HA9 HPS HSUB hF HE HAC HE0
            go_wp2_with fail
            go_ret2
            exact ⟨gx, cx, q, aR, -1, rfl, HX5.out, HB5.out, HA.out⟩
      · have hk1 : ¬ (k : Int) + 1 < (n : Int) := by omega
        obtain rfl : k = m := by omega
        have HA : Hid (BstA vs (extsG k (f + 1) P) (bestL vs (extKG k f P k)).1 (bestL vs (extKG k f P k)).2) := Lib.hid ⟨fun _ => by rw [HEND.out], fun h => absurd HE0.out (by rw [HEND.out]; exact h)⟩
        go_wp2_with fail
        go_ret2
        exact ⟨gx, cx, q, _, _, rfl, HX.out, HB.out, HA.out⟩
def GivesY3 (w : World) (L : List Int) (l : Nat) (z : Int) (x : Bool) (e : Ending) (w' : World) : Prop :=
  ∃ g c', e = .returned (.tuple #[.slice (some ⟨g, 0, none⟩) l c', .int .i64 z, .bool x]) ∧ w'.ownsRow w.heap.size 3 1 (.slice (some ⟨g, 0, none⟩) l c') l (L.map (.int .i64)) ∧ Below w.heap.size w w'
theorem OwnY.gives3 {w w' : World} {L : List Int} {n : Nat} {v : Value} (h : OwnY w w' L n v) (z : Int) (x : Bool) : GivesY3 w L n z x (.returned (.tuple #[v, .int .i64 z, .bool x])) w' := by
  obtain ⟨g, c, rfl, h1, h2, h3⟩ := h
  exact ⟨g, c, rfl, h2, h3⟩
theorem okE_all {vs : List TPool} (hg : goodPs vs) : okE vs (extsG (vs.length - 1) (vs.length - 1) []) ↔ allD vs := ⟨fun h O hO => (h O hO).2.2, fun h => h.okE hg⟩
set_option maxRecDepth 100000 in
set_option maxHeartbeats 2000000 in
theorem bestS_any {w : World} {B : Nat} {A : Option Addr} {n : Nat} {vs : List TPool} (c : Nat) (h : IsPools w B A n vs) (hm : n ≤ 1048576) (L : List Int) (z : Int) (x : Bool) (hA : BesA vs L z x) (l : Nat) (hl : L.length = l) :
    Calls Try.prog 38 #[.slice A n c] w (GivesY3 w L l z x) := by
  have C := Lib.hid (l11List_any c h (Nat.le_trans hm (by unfold maxLen; omega)))
  have HI := Lib.hid h
  have HNO := Lib.hid hA.2
  have HYES := Lib.hid hA.1
  have HM := Lib.hid hl
  have HG0 := Lib.hid (gPs_iff vs)
  generalize gPs vs = G at C HG0
  clear h hA hl
  go_enter Try.func38, Try.ntmps38
  go_wp2_with fail
  refine C.out.mono ?_
  rintro e w1 ⟨rfl, hb⟩
  have HB1 := Lib.hid hb
  clear hb C
  cases G with
  | false =>
    obtain ⟨rfl, rfl, rfl⟩ := HNO.out (fun g => by have := HG0.out.2 g.1; cases this)
    obtain rfl : 0 = l := HM.out
    clear HNO HYES HG0
    go_wp2_with fail
    go_ret3
    exact (OwnY.nil HB1.out).gives3 0 false
  | true =>
  have HGD := Lib.hid (HG0.out.1 rfl)
  have hn1 : 0 < n := by rw [← HI.out.len]; have := HGD.out.1; omega
  obtain ⟨a, rfl⟩ := some_ofP HI.out hn1
  obtain ⟨W5, hW5⟩ : ∃ W, w1.alloc (.cells #[] 3) = W := ⟨_, rfl⟩
  have hb5 : Below w1.heap.size w1 W5 := by rw [← hW5]; exact below1 _ _
  have hO5 : W5.ownsRow w1.heap.size 3 1 (.slice (some ⟨w1.heap.size, 0, none⟩) 0 0) 0 (([] : List Int).map (.int .i64)) := by rw [← hW5]; exact World.ownsRow_made w1 #[] 0 (Nat.le_refl _) (by unfold maxLen; omega) rfl
  have HB5 := Lib.hid (HB1.out.trans (hb5.mono HB1.out.size))
  have CB := Lib.hid (l11Best_any c HGD.out HI.out.len (n - 1) [] W5 w1.heap.size 0 0 w1.heap.size (HI.out.below HB5.out HI.out.low) hO5 hb5.size (okO_nil _) (un_nil _) (by omega))
  have HAL := Lib.hid (okE_all HGD.out)
  have HPS := Lib.hid (fun hF => bestL_pos HGD.out (vs := vs) (E := extsG (vs.length - 1) (vs.length - 1) []) hF (extsG_ne (un_nil _)))
  have HBD : Hid (bestD vs = bestL vs (extsG (vs.length - 1) (vs.length - 1) [])) := Lib.hid rfl
  rw [HI.out.len] at HAL HPS HBD
  have HSZ := Lib.hid HB1.out.size
  clear hO5 hb5 HG0
  go_wp2_with fail
  (try rw [hW5])
  refine CB.out.mono ?_
  rintro e w3 ⟨gx, cx, q, L9, z9, rfl, hX, hb, hA9⟩
  have HB3 := Lib.hid (HB5.out.trans (hb.mono HB5.out.size))
  have HX := Lib.hid (own_low hX HSZ.out)
  have HA9 := Lib.hid hA9
  clear hX hb hA9 CB HB1 HB5 hW5 HSZ
  by_cases hF : okE vs (extsG (n - 1) (n - 1) [])
  · have hps := HPS.out hF
    have hb9 := HA9.out.1 hF
    rw [← hb9] at hps HBD
    obtain ⟨hL, hz, rfl⟩ := HYES.out ⟨HGD.out, HAL.out.1 hF⟩
    rw [HBD.out] at hL hz
    dsimp only at hps hL hz
    subst hL hz
    obtain ⟨hps, -⟩ := hps
    have hql : q = l := by have := HX.out.1; rw [← HM.out]; simpa using this.symm
    subst hql
    clear HNO HYES HA9 HPS HAL HBD hF hb9 HM
    go_wp2_with fail
    go_ret3
    exact ⟨gx, cx, rfl, HX.out, HB3.out⟩
  · obtain rfl : z9 = -1 := HA9.out.2 hF
    have HNF := Lib.hid hF
    clear HPS HBD hF HA9
    obtain ⟨rfl, rfl, rfl⟩ := HNO.out (fun g => HNF.out (HAL.out.2 g.2))
    obtain rfl : 0 = l := HM.out
    clear HNO HYES HGD
    go_wp2_with fail
    go_ret3
    exact (OwnY.nil HB3.out).gives3 0 false
end Go.Proofs.Ytgnopkemcgbedaa
