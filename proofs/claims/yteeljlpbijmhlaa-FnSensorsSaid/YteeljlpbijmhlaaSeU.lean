/- Chapter 6: AgreeingSensors of the model and of the program. -/
import Derived.Test.YteeljlpbijmhlaaSeD
namespace Go.Proofs.Yteeljlpbijmhlaa
open Go.RowKit Go.PlainAid Go.Sort
set_option linter.unusedVariables false
set_option linter.unusedSimpArgs false

set_option maxRecDepth 100000 in
set_option maxHeartbeats 1000000 in
theorem agrSp_any (A : Option Addr) (n c B : Nat) (zs : List Int) (q : Int) (L : List Int) (x : Bool) (hA : AgrA zs q L x) (w : World) (hn : zs.length = n) (hm : n ≤ 1048576) (hB : B ≤ w.heap.size) (h : Has w B A (zs.map (.int .i64))) :
    Calls Try.prog 20 #[.slice A n c, .int .i64 q] w (GivesInts w L x) := by
  have C1 := Lib.hid (l6Triple_any A n c B zs w hn hm h)
  have C2 := Lib.hid (fun W => l6Level_any q W)
  have P0 := Lib.hid (OwnL6.nil (Below.refl w.heap.size w))
  by_cases ht : triS zs
  · obtain rfl : n = 3 := by rw [← hn]; exact ht.1
    rw [decide_eq_true ht] at C1
    by_cases hq : 0 ≤ q ∧ q ≤ 2000
    · obtain ⟨rfl, rfl⟩ := hA.1 ⟨ht, hq⟩
      have C3 := Lib.hid (l6Agreeing_any c (w := w) ⟨ht, h, hB⟩ q hq)
      rw [decide_eq_true hq] at C2
      clear hA hn hm h ht
      go_enter Try.func20, Try.ntmps20
      go_wp2_with fail
      refine C1.out.mono ?_
      rintro e w1 ⟨rfl, rfl⟩
      go_wp2_with fail
      refine (C2.out _).mono ?_
      rintro e w1 ⟨rfl, rfl⟩
      go_wp2_with fail
      refine C3.out.mono ?_
      rintro e w1 ⟨v, rfl, ho⟩
      have HO := Lib.hid ho
      clear ho
      go_wp2_with fail
      refine bodyPost_ret (results_tmp2 rfl _ _ _) rfl ?_
      exact HO.out.gives true
    · obtain ⟨rfl, rfl⟩ := hA.2 (fun g => hq g.2)
      rw [decide_eq_false hq] at C2
      clear hA hn hm h ht
      go_enter Try.func20, Try.ntmps20
      go_wp2_with fail
      refine C1.out.mono ?_
      rintro e w1 ⟨rfl, rfl⟩
      go_wp2_with fail
      refine (C2.out _).mono ?_
      rintro e w1 ⟨rfl, rfl⟩
      go_wp2_with fail
      refine bodyPost_ret (results_tmp2 rfl _ _ _) rfl ?_
      exact P0.out.gives false
  · obtain ⟨rfl, rfl⟩ := hA.2 (fun g => ht g.1)
    rw [decide_eq_false ht] at C1
    clear hA hn hm h ht
    go_enter Try.func20, Try.ntmps20
    go_wp2_with fail
    refine C1.out.mono ?_
    rintro e w1 ⟨rfl, rfl⟩
    go_wp2_with fail
    refine bodyPost_ret (results_tmp2 rfl _ _ _) rfl ?_
    exact P0.out.gives false

set_option maxRecDepth 100000 in
set_option maxHeartbeats 2000000 in
theorem agrIm_any (A : Option Addr) (n c B : Nat) (zs : List Int) (q : Int) (L : List Int) (x : Bool) (hA : AgrA zs q L x) (w : World) (hn : zs.length = n) (hm : n ≤ 1048576) (hB : B ≤ w.heap.size) (h : Has w B A (zs.map (.int .i64))) :
    Calls Try.prog 21 #[.slice A n c, .int .i64 q] w (GivesInts w L x) := by
  obtain ⟨i0, hi, hz0, hz1, hz2⟩ := info_parts Try.infoInt'
  have C2 := Lib.hid (fun W => inRange_any q 0 2000 W)
  by_cases ht : triS zs
  · obtain rfl : n = 3 := by rw [← hn]; exact ht.1
    have C1 := Lib.hid (medIm_any A 3 c B zs (medS zs) true ⟨fun _ => ⟨rfl, rfl⟩, fun g => absurd ht g⟩ w hn hm hB h)
    by_cases hq : 0 ≤ q ∧ q ≤ 2000
    · obtain ⟨rfl, rfl⟩ := hA.1 ⟨ht, hq⟩
      rw [decide_eq_true hq] at C2
      have HI := Lib.hid (show IsTri w B A zs from ⟨ht, h, hB⟩)
      have hmi := medS_in ht
      have CI := Lib.hid (fun (z m : Int) W => inRange_any z (m - q) (m + q) W)
      have HY := Lib.hid (fun k => agrK_yes zs q k)
      have HN := Lib.hid (fun k => agrK_no zs q k)
      generalize medS zs = m at C1 hmi HY HN
      clear hA hn hm h ht
      go_enter Try.func21, Try.ntmps21
      go_wp2_with fail
      refine C1.out.mono ?_
      rintro e w1 ⟨rfl, hb1⟩
      have HB1 := Lib.hid hb1
      clear hb1 C1
      go_wp2_with fail
      refine (C2.out _).mono ?_
      rintro e w1' ⟨rfl, rfl⟩
      have P1 := Lib.hid (OwnL6.nil HB1.out)
      clear C2
      go_wp2_with fail
      go_loopw [8, 27] (fun o i wr => ∃ k : Nat, k ≤ 3 ∧ i = .int .i64 k ∧ OwnL6 w wr (agrK zs q k) o) (fun _ i _ => 3 - (intOf i).toNat)
      case atStart => exact ⟨0, Nat.zero_le _, rfl, P1.out⟩
      case round =>
        obtain ⟨k, hk, rfl, hP⟩ := hrel
        by_cases hlt : k < 3
        · obtain ⟨a1, ha1, hab, ez⟩ := (HI.out.below hP.low HI.out.low).at hlt
          have hlen := agrK_len zs q k
          have hzi := serS_getD HI.out.tri.2 k
          have HYk := Lib.hid (HY.out k)
          have HNk := Lib.hid (HN.out k)
          subst ha1
          generalize zs.getD k 0 = z at ez hzi HYk HNk
          have CIk := Lib.hid (fun W => CI.out z m W)
          have hk0 : (0 : Int) ≤ (k : Int) := by omega
          have hk1 : (k : Int) < 3 := by omega
          have HP := Lib.hid hP
          clear CI P1 hP HY HN
          by_cases hle : m - q ≤ z ∧ z ≤ m + q
          · have HS := Lib.hid (HYk.out (by omega))
            rw [decide_eq_true hle] at CIk
            clear HYk HNk
            generalize agrK zs q k = P at HP HS hlen
            go_wp2_with fail
            refine (CIk.out _).mono ?_
            rintro e w2 ⟨rfl, rfl⟩
            obtain ⟨g0, cp, rfl, hg0, hown, hb⟩ := HP.out
            have hP8 : P.length ≤ 3 := by omega
            clear HP CIk
            go_wp2_with (at_builtin; refine wpList_append_own _ rfl (.tmp 40) (.tmp 42) 22 rfl w.heap.size 3 i0 (.int .i64 0) 1 8 Try.underlying22 hi hz0 hz1 hz2 rfl (by decide) (.slice (some ⟨g0, 0, none⟩) (P.length) cp) (P.length) _ rfl (hown.alloc _) ⟨wr.heap.size, 0, none⟩ 1 1 [.int .i64 (k : Int)] rfl rfl (cell_one_new _ _ _) (by simp [Value.oneCell']) (by unfold maxLen; omega) (by omega) (by have := (hb).size; simp; omega) ?_; intro v1 w1 hown1 hgrow1 hnil1; obtain ⟨g1, c1, rfl, hg1⟩ := own_some hown1 (fun e => nomatch (hnil1.1 e).1); have hb1 := ((hb).alloc (hb).size (.cells #[.int .i64 (k : Int)] 3)).grown hgrow1 (by have := (hb).size; simp; omega) (fun q hq => by cases hq; assumption); clear hnil1 hgrow1 hown hb)
            go_roundw
            case rel => exact ⟨k + 1, by omega, by go_num, by rw [HS.out]; exact ⟨g1, c1, by rw [List.length_append]; rfl, hg1, by rw [List.length_append, List.map_append]; exact hown1, hb1⟩⟩
            case measure => simp [intOf]; omega
          · have HS := Lib.hid (HNk.out (by omega))
            rw [decide_eq_false hle] at CIk
            clear HYk HNk
            go_wp2_with fail
            refine (CIk.out _).mono ?_
            rintro e w2 ⟨rfl, rfl⟩
            go_wp2_with fail
            go_roundw
            case rel => exact ⟨k + 1, by omega, by go_num, by rw [HS.out]; exact HP.out⟩
            case measure => simp [intOf]; omega
        · obtain rfl : k = 3 := by omega
          have HP := Lib.hid hP
          clear hP P1 HI
          go_wp2_with fail
          refine bodyPost_ret (results_tmp2 rfl _ _ _) rfl ?_
          exact HP.out.gives true
    · obtain ⟨rfl, rfl⟩ := hA.2 (fun g => hq g.2)
      rw [decide_eq_false hq] at C2
      generalize medS zs = m at C1
      clear hA hn hm h ht
      go_enter Try.func21, Try.ntmps21
      go_wp2_with fail
      refine C1.out.mono ?_
      rintro e w1 ⟨rfl, hb1⟩
      have P1 := Lib.hid (OwnL6.nil hb1)
      clear hb1
      go_wp2_with fail
      refine (C2.out _).mono ?_
      rintro e w1' ⟨rfl, rfl⟩
      go_wp2_with fail
      refine bodyPost_ret (results_tmp2 rfl _ _ _) rfl ?_
      exact P1.out.gives false
  · obtain ⟨rfl, rfl⟩ := hA.2 (fun g => ht g.1)
    have C1 := Lib.hid (medIm_any A n c B zs 0 false ⟨fun g => absurd g ht, fun _ => ⟨rfl, rfl⟩⟩ w hn hm hB h)
    clear hA hn hm h ht C2
    go_enter Try.func21, Try.ntmps21
    go_wp2_with fail
    refine C1.out.mono ?_
    rintro e w1 ⟨rfl, hb1⟩
    have P1 := Lib.hid (OwnL6.nil hb1)
    clear hb1
    go_wp2_with fail
    refine bodyPost_ret (results_tmp2 rfl _ _ _) rfl ?_
    exact P1.out.gives false
theorem agrSp_own (A : Option Addr) (n c B : Nat) (zs : List Int) (q : Int) (L : List Int) (x : Bool) (hA : AgrA zs q L x) (Ln : Nat) (hLn : L.length = Ln) (w : World) (hn : zs.length = n) (hm : n ≤ 1048576) (hB : B ≤ w.heap.size) (h : Has w B A (zs.map (.int .i64))) :
    Calls Try.prog 20 #[.slice A n c, .int .i64 q] w fun e w' => ∃ g c, e = .returned (.tuple #[.slice (some ⟨g, 0, none⟩) Ln c, .bool x]) ∧ w'.ownsRow w.heap.size 3 1 (.slice (some ⟨g, 0, none⟩) Ln c) Ln (L.map (.int .i64)) ∧ Below w.heap.size w w' :=
  hLn ▸ (agrSp_any A n c B zs q L x hA w hn hm hB h).mono fun _ _ ⟨g, c, h1, _, h3, h4⟩ => ⟨g, c, h1, h3, h4⟩
theorem agrIm_own (A : Option Addr) (n c B : Nat) (zs : List Int) (q : Int) (L : List Int) (x : Bool) (hA : AgrA zs q L x) (Ln : Nat) (hLn : L.length = Ln) (w : World) (hn : zs.length = n) (hm : n ≤ 1048576) (hB : B ≤ w.heap.size) (h : Has w B A (zs.map (.int .i64))) :
    Calls Try.prog 21 #[.slice A n c, .int .i64 q] w fun e w' => ∃ g c, e = .returned (.tuple #[.slice (some ⟨g, 0, none⟩) Ln c, .bool x]) ∧ w'.ownsRow w.heap.size 3 1 (.slice (some ⟨g, 0, none⟩) Ln c) Ln (L.map (.int .i64)) ∧ Below w.heap.size w w' :=
  hLn ▸ (agrIm_any A n c B zs q L x hA w hn hm hB h).mono fun _ _ ⟨g, c, h1, _, h3, h4⟩ => ⟨g, c, h1, h3, h4⟩
end Go.Proofs.Yteeljlpbijmhlaa
