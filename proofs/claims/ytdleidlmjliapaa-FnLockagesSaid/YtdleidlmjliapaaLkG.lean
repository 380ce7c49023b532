/- Chapter 8, the program: the lockages of an order. -/
import Derived.Test.YtdleidlmjliapaaLkF
namespace Go.Proofs.Ytdleidlmjliapaa
open Go.RowKit Go.PlainAid Go.Sort
set_option linter.unusedVariables false
set_option linter.unusedSimpArgs false

theorem ite_mx7 (x y : Int) : (if x < y then y else x) = max x y := by split <;> omega
theorem ite_mx (x y : Int) : (if y < x then x else y) = max x y := by split <;> omega
attribute [local go_sem] ite_mx7 ite_mx
theorem cell_four_new (w : World) (a b c d : Value) (t : TypeId) : ∀ j u, [a, b, c, d][j]? = some u → (w.alloc (.cells #[a, b, c, d] t)).cell? ((⟨w.heap.size, 0, none⟩ : Addr).add j) = some u := by
  intro j u h
  rw [addO, Nat.zero_add, sNew]
  simpa using h
/-- The call hands back a row of its own with these lockages. -/
def OwnL (w w' : World) (L : List Tlockage) (n : Nat) (v : Value) : Prop :=
  ∃ g c, v = .slice (some ⟨g, 0, none⟩) n c ∧ w.heap.size ≤ g ∧ w'.ownsRow w.heap.size 87 4 (.slice (some ⟨g, 0, none⟩) n c) n (flatlockage L) ∧ Below w.heap.size w w'
theorem OwnL.base {w0 w w' : World} {L : List Tlockage} {n : Nat} {v : Value} (h : OwnL w w' L n v) (hb : Go.RowKit.Below w0.heap.size w0 w) : OwnL w0 w' L n v := by
  obtain ⟨g, c, rfl, h1, h2, h3⟩ := h
  exact ⟨g, c, rfl, Nat.le_trans hb.size h1, own_low h2 hb.size, hb.trans (h3.mono hb.size)⟩
theorem OwnL.nil {w w0 : World} (hb : Below w.heap.size w w0) : OwnL w (w0.alloc (.cells #[] 87)) [] 0 (.slice (some ⟨w0.heap.size, 0, none⟩) 0 0) :=
  ⟨w0.heap.size, 0, rfl, hb.size, own_low (World.ownsRow_made w0 #[] 0 (Nat.le_refl _) (by unfold maxLen; omega) rfl) hb.size, hb.alloc hb.size _⟩
theorem OwnL.is {w w' : World} {L : List Tlockage} {n : Nat} {v : Value} (h : OwnL w w' L n v) : ∃ g c, v = .slice (some ⟨g, 0, none⟩) n c ∧ Islockages w' w'.heap.size (some ⟨g, 0, none⟩) n L := by
  obtain ⟨g, c, rfl, h1, h2, h3⟩ := h
  exact ⟨g, c, rfl, own_lockages h2⟩
theorem OwnL.low {w w' : World} {L : List Tlockage} {n : Nat} {v : Value} (h : OwnL w w' L n v) : Below w.heap.size w w' := by
  obtain ⟨g, c, rfl, h1, h2, h3⟩ := h
  exact h3
theorem box_past {wr : World} {d : Int} {u : Bool} {mi g : Int} {t : TypeId} {o : Obj} {g0 : Nat} (hlt : g0 < wr.heap.size) {W : World} (hg : ((wr.alloc (.cells #[.int .i64 d, .bool u, .int .i64 mi, .int .i64 g] t)).alloc o).grownBy W (some g0)) :
    W.cell? ⟨wr.heap.size, 1, none⟩ = some (.bool u) := by
  have h1 : ((wr.alloc (.cells #[.int .i64 d, .bool u, .int .i64 mi, .int .i64 g] t)).alloc o).cell? ⟨wr.heap.size, 1, none⟩ = some (.bool u) := by
    have h2 : (wr.alloc (.cells #[.int .i64 d, .bool u, .int .i64 mi, .int .i64 g] t)).cell? ⟨wr.heap.size, 1, none⟩ = some (.bool u) := by rw [sNew]; rfl
    exact ((below1 _ o).cell (World.block_lt_of_cell? _ _ h2)).trans h2
  exact (World.cell?_of_block (a := ⟨wr.heap.size, 1, none⟩) (hg.block _ (World.block_lt_of_cell? _ _ h1) (by simp; omega))).trans h1
set_option maxHeartbeats 1000000 in
theorem canLock_any {w : World} {B : Nat} {A : Option Addr} {n : Nat} {vs : List TArrival} (c : Nat) (h : IsArrivals w B A n vs) (hm : n ≤ 1048576) (m : Int) :
    Calls Try.prog 54 #[.slice A n c, .int .i64 m] w fun e w' => e = .returned (.bool (gAs vs && decide (1 ≤ m ∧ m ≤ 60))) ∧ Below w.heap.size w w' := by
  have C := Lib.hid (areArrivals_any c h (Nat.le_trans hm (by unfold maxLen; omega)))
  have CM := Lib.hid (fun W => inRange_any m 1 60 W)
  generalize gAs vs = G at C ⊢
  generalize decide (1 ≤ m ∧ m ≤ 60) = D at CM ⊢
  clear h
  go_enter Try.func54, Try.ntmps54
  go_wp2_with fail
  refine C.out.mono ?_
  rintro e w1 ⟨rfl, hb⟩
  have HB := Lib.hid hb
  clear hb C
  cases G with
  | false =>
    go_wp2_with fail
    go_ret
    exact ⟨rfl, HB.out⟩
  | true =>
    go_wp2_with fail
    refine (CM.out _).mono ?_
    rintro e w2 ⟨rfl, rfl⟩
    go_wp2_with fail
    go_ret
    exact ⟨ret_bool (by simp), HB.out⟩
theorem lkA_can {vs : List TArrival} {h : Bool} {m : Int} {os : List Int} {L : List Tlockage} {x : Bool} (hA : LkA vs h m os L x) (hc : (gAs vs && decide (1 ≤ m ∧ m ≤ 60)) = false) : L = [] ∧ x = false :=
  (lkA_ways hA).2 (by
    rw [Bool.and_eq_false_iff] at hc
    rcases hc with hc | hc
    · exact .inl (oA_no (fun g => by have := gAs_yes g.1; rw [hc] at this; cases this))
    · exact .inr hc)
set_option maxRecDepth 100000 in
set_option maxHeartbeats 8000000 in
theorem lockagesOf_any {w : World} {B B2 : Nat} {A A2 : Option Addr} {n n2 : Nat} {vs : List TArrival} {os : List Int} (c c2 : Nat) (h : IsArrivals w B A n vs) (hm : n ≤ 1048576) (h2 : IsIs w B2 A2 n2 os) (hm2 : n2 ≤ 1048576) (hnc : n2 ≤ c2) (hgh : Bool) (m : Int) (L : List Tlockage) (x : Bool) (hA : LkA vs hgh m os L x) :
    Calls Try.prog 50 #[.slice A n c, .bool hgh, .int .i64 m, .slice A2 n2 c2] w fun e w' => ∃ v, e = .returned (.tuple #[v, .bool x]) ∧ OwnL w w' L L.length v := by
  obtain ⟨i0, hi, hz0, hz1, hz2⟩ := info_parts Try.infolockage'
  have CC := Lib.hid (canLock_any c h hm m)
  have CO := Lib.hid (fun W (hb : Below w.heap.size w W) => isOrderI_any c c2 (h.below hb h.low) hm (h2.below hb h2.low) hm2 hnc)
  have HI := Lib.hid h
  have HO := Lib.hid h2
  have HNO := Lib.hid (lkA_ways hA).2
  have HYES := Lib.hid (lkA_ways hA).1
  have HCAN := Lib.hid (fun hc => lkA_can hA hc)
  obtain ⟨K, hK⟩ : ∃ K, (gAs vs && decide (1 ≤ m ∧ m ≤ 60)) = K := ⟨_, rfl⟩
  obtain ⟨G, hG⟩ : ∃ G, oA vs os = G := ⟨_, rfl⟩
  rw [hG] at HNO HYES CO
  rw [hK] at CC HCAN
  have HKE := Lib.hid hK
  have HGE := Lib.hid hG
  clear h h2 hA hG hK
  go_enter Try.func50, Try.ntmps50
  go_wp2_with fail
  refine CC.out.mono ?_
  rintro e w1 ⟨rfl, hb⟩
  have HB1 := Lib.hid hb
  have CO1 := Lib.hid (CO.out _ hb)
  clear hb CC CO
  cases K with
  | false =>
    obtain ⟨rfl, rfl⟩ := HCAN.out rfl
    clear HNO HYES HCAN CO1
    go_wp2_with fail
    refine bodyPost_ret (results_tmp2 rfl _ _ _) rfl ?_
    exact ⟨_, rfl, OwnL.nil HB1.out⟩
  | true =>
  have HMM : Hid (1 ≤ m ∧ m ≤ 60) := Lib.hid (of_decide_eq_true (Bool.and_eq_true_iff.1 HKE.out).2)
  clear HCAN
  go_wp2_with fail
  refine CO1.out.mono ?_
  rintro e w2 ⟨rfl, hb⟩
  have HB2 := Lib.hid (HB1.out.trans (hb.mono HB1.out.size))
  clear hb CO1 HB1
  cases G with
  | false =>
    obtain ⟨rfl, rfl⟩ := HNO.out (.inl rfl)
    clear HNO HYES
    go_wp2_with fail
    refine bodyPost_ret (results_tmp2 rfl _ _ _) rfl ?_
    exact ⟨_, rfl, OwnL.nil HB2.out⟩
  | true =>
  obtain ⟨hL, rfl⟩ := HYES.out rfl (decide_eq_true HMM.out)
  have HOR := Lib.hid ((oA_iff vs os).1 HGE.out)
  have h26 : n2 ≤ 6 := by rw [← HO.out.len]; exact HOR.out.le6
  have HR : Hid (∀ p, p < n2 → inA n (os.getD p 0)) := Lib.hid (fun p hp => by rw [← HI.out.len]; exact HOR.out.inn (by rw [HO.out.len]; exact hp))
  have HEND : Hid (L = (lkSt vs m hgh (os.take n2)).1) := Lib.hid (by rw [hL, ← HO.out.len, List.take_length]; rfl)
  have HLN : Hid (L.length = n2) := Lib.hid (by rw [hL, lks_len HMM.out (fun p hp => HOR.out.good hp), HO.out.len])
  have HLB := Lib.hid (fun k (hk : k ≤ os.length) => lkB (vs := vs) (m := m) (h := hgh) (os := os) HMM.out (fun p hp => HOR.out.good hp) hk)
  have HGA := Lib.hid (fun p (hp : p < n2) => HOR.out.good (p := p) (by rw [HO.out.len]; exact hp))
  have hmm := HMM.out
  have P1 := Lib.hid (OwnL.nil HB2.out)
  clear HNO HYES HKE HGE hL
  go_wp2_with fail
  go_loopw [1, 10, 11, 31] (fun q v z i wr => ∃ (k : Nat) (Ls : List Tlockage) (fr : Int) (hh : Bool), lkSt vs m hgh (os.take k) = (Ls, fr, hh) ∧ k ≤ n2 ∧ i = .int .i64 k ∧ z = .int .i64 fr ∧ q = .bool hh ∧ OwnL w wr Ls k v) (fun _ _ _ i _ => n2 - (intOf i).toNat)
  case atStart => exact ⟨0, [], 0, hgh, rfl, Nat.zero_le _, rfl, rfl, rfl, P1.out⟩
  case round =>
    clear P1
    obtain ⟨k, Ls, fr, hh, hst, hk, rfl, rfl, rfl, hO⟩ := hrel
    have HST := Lib.hid hst
    by_cases hlt : k < n2
    · obtain ⟨g0, cp, rfl, hg0, hown, hb⟩ := hO
      have hg9 : g0 < wr.heap.size := (hown.lt g0 rfl).2
      have hB := HLB.out k (by rw [HO.out.len]; omega)
      have hfr := hB.free
      rw [hst] at hfr
      dsimp only at hfr
      have hgk := (HGA.out k hlt).2.1
      obtain ⟨a2, rfl, -, f0⟩ := Has.numAt (HO.out.below hb HO.out.low).has (k := k) (by rw [HO.out.len]; exact hlt)
      obtain ⟨j, hj, hjn⟩ := inA_nat (HR.out k hlt)
      have HSX := Lib.hid (fun V (ea : atA vs (j : Int) = V) F (eF : (if (V.x1 == hh) = true then fr + m else fr) = F) => lkSt_times (by rw [HO.out.len]; exact hlt) hst hj ea F eF)
      rw [hj, atA_cast] at hgk
      rw [hj] at f0
      obtain ⟨a1, rfl, -, HV⟩ := (HI.out.below hb HI.out.low).has.Arrival (k := j) (by rw [HI.out.len]; exact hjn)
      replace HSX := Lib.hid (HSX.out _ (atA_cast vs j))
      generalize vs.getD j noArrival = V at HV hgk HSX
      obtain ⟨d, u, mi, g⟩ := V
      obtain ⟨e0, e1, e2, e3⟩ := HV
      dsimp only at e0 e1 e2 e3 hgk
      replace HSX : Hid (∀ F, (if (u == hh) = true then fr + m else fr) = F → lkSt vs m hgh (os.take (k + 1)) = (Ls ++ [⟨(j : Int), u == hh, max F mi, max F mi - mi⟩], max F mi + m, u)) := HSX
      have hk0 : (0 : Int) ≤ (k : Int) := by omega
      have hk1 : (k : Int) < (n2 : Int) := by omega
      have hj0 : (0 : Int) ≤ (j : Int) := by omega
      have hj1 : (j : Int) < (n : Int) := by omega
      have hfr2 : fr ≤ 10599 := by omega
      clear hst hB hj HST
      cases u <;> cases hh
      · skip
        have HST2 := Lib.hid (HSX.out (fr + m) rfl)
        have hmx : 0 ≤ max ((fr + m)) mi ∧ max ((fr + m)) mi ≤ 10719 ∧ mi ≤ max ((fr + m)) mi := by omega
        clear HSX
        have HCELL := Lib.hid (fun (b : Int) => by
          have h := cell_four_new (wr.alloc (.cells #[.int .i64 d, .bool false, .int .i64 mi, .int .i64 g] 58)) (.int .i64 (j : Int)) (.bool true) (.int .i64 b) (.int .i64 (b - mi)) 87
          rw [World.size_alloc] at h
          exact h)
        have HBP := Lib.hid (fun (o : Obj) (W : World) (hg : ((wr.alloc (.cells #[.int .i64 d, .bool false, .int .i64 mi, .int .i64 g] 58)).alloc o).grownBy W (some g0)) => box_past hg9 hg)
        go_wp2_with (at_builtin; refine wpList_append_own _ rfl (.tmp 51) (.tmp 60) 83 rfl w.heap.size 87 i0 (.agg #[.int .i64 0, .bool false, .int .i64 0, .int .i64 0]) 4 32 Try.underlying83 hi hz0 hz1 hz2 rfl (by decide) (.slice (some ⟨g0, 0, none⟩) (k) cp) (k) _ rfl ((hown.alloc _).alloc _) ⟨wr.heap.size + 1, 0, none⟩ 1 1 [.int .i64 (j : Int), .bool true, .int .i64 (max ((fr + m)) mi), .int .i64 (max ((fr + m)) mi - mi)] rfl rfl (HCELL.out _) (by simp [Value.oneCell']) (by unfold maxLen; omega) (by omega) (by have := (hb).size; simp; omega) ?_; intro v1 w1 hown1 hgrow1 hnil1; obtain ⟨g1, c1, rfl, hg1⟩ := own_some hown1 (fun e => nomatch (hnil1.1 e).1); have hb1 := (((hb.alloc hb.size (.cells #[.int .i64 d, .bool false, .int .i64 mi, .int .i64 g] 58)).alloc (by have := hb.size; simp; omega) (.cells #[.int .i64 (j : Int), .bool true, .int .i64 (max ((fr + m)) mi), .int .i64 (max ((fr + m)) mi - mi)] 87))).grown hgrow1 (by have := (hb).size; simp; omega) (fun q hq => by cases hq; assumption); have hx1 := HBP.out _ _ hgrow1; clear hnil1 hgrow1 hown hb)
        have X1 := fun (d : Nat) (os : Array Obj) => cell_regrown hx1 d os
        have HBA := Lib.hid hb1
        have HOA := Lib.hid hown1
        clear hx1 hb1 hown1 HCELL HBP e0 e1 e2 e3 f0
        refine wp_region_quiet_below (by kernel_rfl) (by kernel_rfl) ?_
        repeat (go_big_quiet_step (first | fail))
        refine wpQuiet_nil ?_
        intro _ hw'
        obtain ⟨⟨dq, osq⟩, hw''⟩ := hw'
        subst hw''
        have HBX := Lib.hid (HBA.out.trans ((below_regrown w1 dq osq).mono HBA.out.size))
        clear X1
        go_wp2_with fail
        go_roundw
        case rel => exact ⟨k + 1, _, _, _, HST2.out, by omega, by go_num, rfl, rfl, g1, c1, rfl, hg1, by rw [flatlockage_append]; exact own_below HOA.out (below_regrown w1 dq osq), HBX.out⟩
        case measure => simp [intOf]; omega
      · skip
        have HST2 := Lib.hid (HSX.out fr rfl)
        have hmx : 0 ≤ max (fr) mi ∧ max (fr) mi ≤ 10719 ∧ mi ≤ max (fr) mi := by omega
        clear HSX
        have HCELL := Lib.hid (fun (b : Int) => by
          have h := cell_four_new (wr.alloc (.cells #[.int .i64 d, .bool false, .int .i64 mi, .int .i64 g] 58)) (.int .i64 (j : Int)) (.bool false) (.int .i64 b) (.int .i64 (b - mi)) 87
          rw [World.size_alloc] at h
          exact h)
        have HBP := Lib.hid (fun (o : Obj) (W : World) (hg : ((wr.alloc (.cells #[.int .i64 d, .bool false, .int .i64 mi, .int .i64 g] 58)).alloc o).grownBy W (some g0)) => box_past hg9 hg)
        go_wp2_with (at_builtin; refine wpList_append_own _ rfl (.tmp 51) (.tmp 60) 83 rfl w.heap.size 87 i0 (.agg #[.int .i64 0, .bool false, .int .i64 0, .int .i64 0]) 4 32 Try.underlying83 hi hz0 hz1 hz2 rfl (by decide) (.slice (some ⟨g0, 0, none⟩) (k) cp) (k) _ rfl ((hown.alloc _).alloc _) ⟨wr.heap.size + 1, 0, none⟩ 1 1 [.int .i64 (j : Int), .bool false, .int .i64 (max (fr) mi), .int .i64 (max (fr) mi - mi)] rfl rfl (HCELL.out _) (by simp [Value.oneCell']) (by unfold maxLen; omega) (by omega) (by have := (hb).size; simp; omega) ?_; intro v1 w1 hown1 hgrow1 hnil1; obtain ⟨g1, c1, rfl, hg1⟩ := own_some hown1 (fun e => nomatch (hnil1.1 e).1); have hb1 := (((hb.alloc hb.size (.cells #[.int .i64 d, .bool false, .int .i64 mi, .int .i64 g] 58)).alloc (by have := hb.size; simp; omega) (.cells #[.int .i64 (j : Int), .bool false, .int .i64 (max (fr) mi), .int .i64 (max (fr) mi - mi)] 87))).grown hgrow1 (by have := (hb).size; simp; omega) (fun q hq => by cases hq; assumption); have hx1 := HBP.out _ _ hgrow1; clear hnil1 hgrow1 hown hb)
        have X1 := fun (d : Nat) (os : Array Obj) => cell_regrown hx1 d os
        have HBA := Lib.hid hb1
        have HOA := Lib.hid hown1
        clear hx1 hb1 hown1 HCELL HBP e0 e1 e2 e3 f0
        refine wp_region_quiet_below (by kernel_rfl) (by kernel_rfl) ?_
        repeat (go_big_quiet_step (first | fail))
        refine wpQuiet_nil ?_
        intro _ hw'
        obtain ⟨⟨dq, osq⟩, hw''⟩ := hw'
        subst hw''
        have HBX := Lib.hid (HBA.out.trans ((below_regrown w1 dq osq).mono HBA.out.size))
        clear X1
        go_wp2_with fail
        go_roundw
        case rel => exact ⟨k + 1, _, _, _, HST2.out, by omega, by go_num, rfl, rfl, g1, c1, rfl, hg1, by rw [flatlockage_append]; exact own_below HOA.out (below_regrown w1 dq osq), HBX.out⟩
        case measure => simp [intOf]; omega
      · skip
        have HST2 := Lib.hid (HSX.out fr rfl)
        have hmx : 0 ≤ max (fr) mi ∧ max (fr) mi ≤ 10719 ∧ mi ≤ max (fr) mi := by omega
        clear HSX
        have HCELL := Lib.hid (fun (b : Int) => by
          have h := cell_four_new (wr.alloc (.cells #[.int .i64 d, .bool true, .int .i64 mi, .int .i64 g] 58)) (.int .i64 (j : Int)) (.bool false) (.int .i64 b) (.int .i64 (b - mi)) 87
          rw [World.size_alloc] at h
          exact h)
        have HBP := Lib.hid (fun (o : Obj) (W : World) (hg : ((wr.alloc (.cells #[.int .i64 d, .bool true, .int .i64 mi, .int .i64 g] 58)).alloc o).grownBy W (some g0)) => box_past hg9 hg)
        go_wp2_with (at_builtin; refine wpList_append_own _ rfl (.tmp 51) (.tmp 60) 83 rfl w.heap.size 87 i0 (.agg #[.int .i64 0, .bool false, .int .i64 0, .int .i64 0]) 4 32 Try.underlying83 hi hz0 hz1 hz2 rfl (by decide) (.slice (some ⟨g0, 0, none⟩) (k) cp) (k) _ rfl ((hown.alloc _).alloc _) ⟨wr.heap.size + 1, 0, none⟩ 1 1 [.int .i64 (j : Int), .bool false, .int .i64 (max (fr) mi), .int .i64 (max (fr) mi - mi)] rfl rfl (HCELL.out _) (by simp [Value.oneCell']) (by unfold maxLen; omega) (by omega) (by have := (hb).size; simp; omega) ?_; intro v1 w1 hown1 hgrow1 hnil1; obtain ⟨g1, c1, rfl, hg1⟩ := own_some hown1 (fun e => nomatch (hnil1.1 e).1); have hb1 := (((hb.alloc hb.size (.cells #[.int .i64 d, .bool true, .int .i64 mi, .int .i64 g] 58)).alloc (by have := hb.size; simp; omega) (.cells #[.int .i64 (j : Int), .bool false, .int .i64 (max (fr) mi), .int .i64 (max (fr) mi - mi)] 87))).grown hgrow1 (by have := (hb).size; simp; omega) (fun q hq => by cases hq; assumption); have hx1 := HBP.out _ _ hgrow1; clear hnil1 hgrow1 hown hb)
        have X1 := fun (d : Nat) (os : Array Obj) => cell_regrown hx1 d os
        have HBA := Lib.hid hb1
        have HOA := Lib.hid hown1
        clear hx1 hb1 hown1 HCELL HBP e0 e1 e2 e3 f0
        refine wp_region_quiet_below (by kernel_rfl) (by kernel_rfl) ?_
        repeat (go_big_quiet_step (first | fail))
        refine wpQuiet_nil ?_
        intro _ hw'
        obtain ⟨⟨dq, osq⟩, hw''⟩ := hw'
        subst hw''
        have HBX := Lib.hid (HBA.out.trans ((below_regrown w1 dq osq).mono HBA.out.size))
        clear X1
        go_wp2_with fail
        go_roundw
        case rel => exact ⟨k + 1, _, _, _, HST2.out, by omega, by go_num, rfl, rfl, g1, c1, rfl, hg1, by rw [flatlockage_append]; exact own_below HOA.out (below_regrown w1 dq osq), HBX.out⟩
        case measure => simp [intOf]; omega
      · skip
        have HST2 := Lib.hid (HSX.out (fr + m) rfl)
        have hmx : 0 ≤ max ((fr + m)) mi ∧ max ((fr + m)) mi ≤ 10719 ∧ mi ≤ max ((fr + m)) mi := by omega
        clear HSX
        have HCELL := Lib.hid (fun (b : Int) => by
          have h := cell_four_new (wr.alloc (.cells #[.int .i64 d, .bool true, .int .i64 mi, .int .i64 g] 58)) (.int .i64 (j : Int)) (.bool true) (.int .i64 b) (.int .i64 (b - mi)) 87
          rw [World.size_alloc] at h
          exact h)
        have HBP := Lib.hid (fun (o : Obj) (W : World) (hg : ((wr.alloc (.cells #[.int .i64 d, .bool true, .int .i64 mi, .int .i64 g] 58)).alloc o).grownBy W (some g0)) => box_past hg9 hg)
        go_wp2_with (at_builtin; refine wpList_append_own _ rfl (.tmp 51) (.tmp 60) 83 rfl w.heap.size 87 i0 (.agg #[.int .i64 0, .bool false, .int .i64 0, .int .i64 0]) 4 32 Try.underlying83 hi hz0 hz1 hz2 rfl (by decide) (.slice (some ⟨g0, 0, none⟩) (k) cp) (k) _ rfl ((hown.alloc _).alloc _) ⟨wr.heap.size + 1, 0, none⟩ 1 1 [.int .i64 (j : Int), .bool true, .int .i64 (max ((fr + m)) mi), .int .i64 (max ((fr + m)) mi - mi)] rfl rfl (HCELL.out _) (by simp [Value.oneCell']) (by unfold maxLen; omega) (by omega) (by have := (hb).size; simp; omega) ?_; intro v1 w1 hown1 hgrow1 hnil1; obtain ⟨g1, c1, rfl, hg1⟩ := own_some hown1 (fun e => nomatch (hnil1.1 e).1); have hb1 := (((hb.alloc hb.size (.cells #[.int .i64 d, .bool true, .int .i64 mi, .int .i64 g] 58)).alloc (by have := hb.size; simp; omega) (.cells #[.int .i64 (j : Int), .bool true, .int .i64 (max ((fr + m)) mi), .int .i64 (max ((fr + m)) mi - mi)] 87))).grown hgrow1 (by have := (hb).size; simp; omega) (fun q hq => by cases hq; assumption); have hx1 := HBP.out _ _ hgrow1; clear hnil1 hgrow1 hown hb)
        have X1 := fun (d : Nat) (os : Array Obj) => cell_regrown hx1 d os
        have HBA := Lib.hid hb1
        have HOA := Lib.hid hown1
        clear hx1 hb1 hown1 HCELL HBP e0 e1 e2 e3 f0
        refine wp_region_quiet_below (by kernel_rfl) (by kernel_rfl) ?_
        repeat (go_big_quiet_step (first | fail))
        refine wpQuiet_nil ?_
        intro _ hw'
        obtain ⟨⟨dq, osq⟩, hw''⟩ := hw'
        subst hw''
        have HBX := Lib.hid (HBA.out.trans ((below_regrown w1 dq osq).mono HBA.out.size))
        clear X1
        go_wp2_with fail
        go_roundw
        case rel => exact ⟨k + 1, _, _, _, HST2.out, by omega, by go_num, rfl, rfl, g1, c1, rfl, hg1, by rw [flatlockage_append]; exact own_below HOA.out (below_regrown w1 dq osq), HBX.out⟩
        case measure => simp [intOf]; omega
    · obtain rfl : k = n2 := by omega
      have hLs : Ls = L := by rw [HEND.out, HST.out]
      subst hLs
      go_wp2_with fail
      refine bodyPost_ret (results_tmp2 rfl _ _ _) rfl ?_
      exact ⟨_, rfl, by rw [HLN.out]; exact hO⟩
end Go.Proofs.Ytdleidlmjliapaa
