/- Chapter 12: hours that are not safe, safe plans: the program. -/
import Derived.Test.YtdjoiodkmanacaaPuF
namespace Go.Proofs.Ytdjoiodkmanacaa
open Go.RowKit Go.PlainAid Go.Sort
set_option linter.unusedVariables false
set_option linter.unusedSimpArgs false

set_option maxRecDepth 100000 in
set_option maxHeartbeats 2000000 in
theorem firstI_any {w : World} {B : Nat} {A D : Option Addr} {n m : Nat} {zs : List Int} {vs : List TPump} (a b c : Int) (q r : Nat) (h : IsTs w B A n zs D m vs) (hm : n ≤ 1048576) (hm2 : m ≤ 1048576) {BG : Nat} {G : Option Addr} {l : Nat} {xs : List Int} (cx : Nat) (hp : IsIs w BG G l xs) (hl : l ≤ 1048576) (z : Int) (x : Bool) (hA : FstA ⟨a, b, c, zs, vs⟩ xs z x) :
    Calls Try.prog 23 #[.agg #[.int .i64 a, .int .i64 b, .int .i64 c, .slice A n q, .slice D m r], .slice G l cx] w fun e w' => e = .returned (.tuple #[.int .i64 z, .bool x]) ∧ Below w.heap.size w w' := by
  obtain ⟨W5, hW5, X5, B5, z5⟩ := box_in w a b c A n q D m r
  obtain ⟨L, y, hL⟩ := lvsA_ex ⟨a, b, c, zs, vs⟩ xs
  obtain ⟨j, hj⟩ : ∃ j, L.length = j := ⟨_, rfl⟩
  have C1 := Lib.hid (levelsI_any a b c q r (h.upB B5) hm hm2 cx (hp.upB B5) hl L y hL j hj)
  have hj5 : j ≤ 5 := by rw [← hj]; exact hL.len
  have HXW := Lib.hid X5
  have HB5 := Lib.hid B5
  have CI := Lib.hid (fun z W => isWithin_any a b c A n q D m r z W)
  have HL := Lib.hid hj
  -- the levels, one after the other
  have HLV : Hid (∀ k, k < j → goodX ⟨a, b, c, zs, vs⟩ xs ∧ L.getD k 0 = lvU ⟨a, b, c, zs, vs⟩ xs (k + 1) ∧ xs.length = j) := Lib.hid (fun k hk => by
    by_cases e : goodX ⟨a, b, c, zs, vs⟩ xs
    · have hLL := (hL.1 e).1
      have hxj : xs.length = j := by rw [← hj, hLL, lvsU_len]
      exact ⟨e, by rw [hLL, hxj, lvsU_at _ _ hk], hxj⟩
    · have := (hL.2 e).1; rw [this] at hj; simp at hj; omega)
  have HEND : Hid ((∀ k, k < j → a ≤ L.getD k 0 ∧ L.getD k 0 ≤ b) → z = 0 ∧ x = false) := Lib.hid (fun hall => hA.2 (fun g => by
    have hxj : xs.length = j := by rw [← hj, (hL.1 g.1).1, lvsU_len]
    exact g.2 (fun k hk => by
      obtain ⟨-, e, -⟩ := HLV.out k (by rw [← hxj]; exact hk)
      have := hall k (by rw [← hxj]; exact hk)
      rw [e] at this
      exact this)))
  have HHIT : Hid (∀ k, k < j → (∀ i, i < k → a ≤ L.getD i 0 ∧ L.getD i 0 ≤ b) → ¬ (a ≤ L.getD k 0 ∧ L.getD k 0 ≤ b) → z = (k : Int) ∧ x = true) := Lib.hid (fun k hk hall hno => by
    obtain ⟨hg, e, hxj⟩ := HLV.out k hk
    have hf : fstU ⟨a, b, c, zs, vs⟩ xs xs.length k := by
      refine ⟨by omega, fun i hi => ?_, by rw [e] at hno; exact hno⟩
      obtain ⟨-, e2, -⟩ := HLV.out i (by omega)
      have := hall i hi
      rw [e2] at this
      exact this
    obtain ⟨k2, hf2, hz, hx⟩ := hA.1 ⟨hg, fstU_no hf⟩
    rw [fstU_one hf hf2]
    exact ⟨hz, hx⟩)
  clear h hp X5 B5 z5 hA hL hj HLV
  go_enter Try.func23, Try.ntmps23
  have cT0 := HXW.out.c0
  have cT1 := HXW.out.c1
  have cT2 := HXW.out.c2
  have cT3 := HXW.out.c3
  have cT4 := HXW.out.c4
  go_wp2_with fail
  (try rw [hW5])
  clear hW5 cT0 cT1 cT2 cT3 cT4
  refine C1.out.mono ?_
  rintro e w1 ⟨g, cg, rfl, hown, hb⟩
  have HX1 := Lib.hid (HXW.out.all hb)
  have HB1 := Lib.hid (HB5.out.trans (hb.mono HB5.out.size))
  have HO1 := Lib.hid (own_IsIs hown)
  clear hb hown C1 HXW HB5
  go_wp2_with fail
  go_loopw [18] (fun i wr => ∃ k : Nat, k ≤ j ∧ i = .int .i64 k ∧ Hid (∀ i, i < k → a ≤ L.getD i 0 ∧ L.getD i 0 ≤ b) ∧ Below w1.heap.size w1 wr) (fun i _ => j - (intOf i).toNat)
  case atStart => exact ⟨0, Nat.zero_le _, rfl, Lib.hid (fun i hi => absurd hi (by omega)), Below.refl _ _⟩
  case round =>
    obtain ⟨k, hk, rfl, hall, hb⟩ := hrel
    by_cases hlt : k < j
    · obtain ⟨aI, eI, hab, ez⟩ := (HO1.out.upB hb).has.numAt (k := k) (by rw [HL.out]; exact hlt)
      injection eI with eI
      subst eI
      have hk0 : (0 : Int) ≤ (k : Int) := by omega
      have hk1 : (k : Int) < (j : Int) := by omega
      have hX := HX1.out.all hb
      have cT0 := hX.c0
      have cT1 := hX.c1
      have cT2 := hX.c2
      have cT3 := hX.c3
      have cT4 := hX.c4
      have HH := Lib.hid (HHIT.out k hlt hall.out)
      have HA2 : Hid ((a ≤ L.getD k 0 ∧ L.getD k 0 ≤ b) → ∀ i, i < k + 1 → a ≤ L.getD i 0 ∧ L.getD i 0 ≤ b) := Lib.hid (fun h i hi => by
        rcases Nat.lt_succ_iff_lt_or_eq.1 hi with h1 | h1
        · exact hall.out i h1
        · subst h1; exact h)
      have CZ := Lib.hid (CI.out (L.getD k 0) wr)
      generalize L.getD k 0 = Z at ez HH HA2 CZ
      obtain ⟨bb, hbb⟩ : ∃ y, decide (a ≤ Z ∧ Z ≤ b) = y := ⟨_, rfl⟩
      rw [hbb] at CZ
      have HBB := Lib.hid hbb
      have HB := Lib.hid hb
      clear hX hall hb HHIT CI hbb HEND
      rw [addO, Nat.zero_add] at ez
      go_wp2_with fail
      refine CZ.out.mono ?_
      rintro e w3 ⟨rfl, hb⟩
      have HB3 := Lib.hid (HB.out.trans (hb.mono HB.out.size))
      clear hb CZ cT0 cT1 cT2 cT3 cT4 ez
      cases bb with
      | true =>
        have HR := Lib.hid (HA2.out (of_decide_eq_true HBB.out))
        clear HH HA2 HBB
        go_wp2_with fail
        go_roundw
        case rel => exact ⟨k + 1, by omega, by go_num, HR, HB3.out⟩
        case measure => simp [intOf]; omega
      | false =>
        obtain ⟨rfl, rfl⟩ := HH.out (of_decide_eq_false HBB.out)
        have HBZ := Lib.hid (HB1.out.trans (HB3.out.mono HB1.out.size))
        clear HH HA2 HBB
        go_wp2_with fail
        refine bodyPost_ret (results_tmp2 rfl _ _ _) rfl ?_
        exact ⟨rfl, HBZ.out⟩
    · obtain rfl : j = k := by omega
      obtain ⟨rfl, rfl⟩ := HEND.out hall.out
      have HBZ := Lib.hid (HB1.out.trans (hb.mono HB1.out.size))
      clear hb hall HHIT HEND CI
      go_wp2_with fail
      refine bodyPost_ret (results_tmp2 rfl _ _ _) rfl ?_
      exact ⟨rfl, HBZ.out⟩
set_option maxRecDepth 100000 in
set_option maxHeartbeats 2000000 in
theorem safeI_any {w : World} {B : Nat} {A D : Option Addr} {n m : Nat} {zs : List Int} {vs : List TPump} (a b c : Int) (q r : Nat) (h : IsTs w B A n zs D m vs) (hm : n ≤ 1048576) (hm2 : m ≤ 1048576) {BG : Nat} {G : Option Addr} {l : Nat} {xs : List Int} (cx : Nat) (hp : IsIs w BG G l xs) (hl : l ≤ 1048576) (y x : Bool) (hA : SafA ⟨a, b, c, zs, vs⟩ xs y x) :
    Calls Try.prog 22 #[.agg #[.int .i64 a, .int .i64 b, .int .i64 c, .slice A n q, .slice D m r], .slice G l cx] w fun e w' => e = .returned (.tuple #[.bool y, .bool x]) ∧ Below w.heap.size w w' := by
  obtain ⟨W5, hW5, X5, B5, z5⟩ := box_in w a b c A n q D m r
  obtain ⟨z9, x9, hF⟩ := fstA_ex ⟨a, b, c, zs, vs⟩ xs
  have C1 := Lib.hid (planI_any a b c q r (h.upB B5) hm hm2 cx (hp.upB B5) hl)
  have C2 := Lib.hid (fun W (hb : Below W5.heap.size W5 W) => firstI_any a b c q r ((h.upB B5).upB hb) hm hm2 cx ((hp.upB B5).upB hb) hl z9 x9 hF)
  have HX5 := Lib.hid X5
  have HB5 := Lib.hid B5
  have HNO := Lib.hid hA.2
  have HYES : Hid (goodX ⟨a, b, c, zs, vs⟩ xs → y = !x9 ∧ x = true) := Lib.hid (fun g => by
    obtain ⟨h1, h2⟩ := hA.1 g
    refine ⟨?_, h2⟩
    by_cases e : SafO ⟨a, b, c, zs, vs⟩ xs
    · obtain ⟨-, rfl⟩ := hF.2 (fun k => k.2 e)
      exact h1.2 e
    · obtain ⟨k, -, -, rfl⟩ := hF.1 ⟨g, e⟩
      show y = false
      rw [← Bool.not_eq_true, h1]
      exact e)
  have HG := Lib.hid (gX_iff ⟨a, b, c, zs, vs⟩ xs)
  generalize gX ⟨a, b, c, zs, vs⟩ xs = T at HG C1
  have cT0 := X5.c0
  have cT1 := X5.c1
  have cT2 := X5.c2
  have cT3 := X5.c3
  have cT4 := X5.c4
  clear h hp X5 B5 z5 hA hF
  go_enter Try.func22, Try.ntmps22
  go_wp2_with fail
  (try rw [hW5])
  clear hW5 cT0 cT1 cT2 cT3 cT4
  refine C1.out.mono ?_
  rintro e w1 ⟨rfl, hb⟩
  have hX1 := HX5.out.all hb
  have HB1 := Lib.hid (HB5.out.trans (hb.mono HB5.out.size))
  have C3 := Lib.hid (C2.out _ hb)
  have cT0 := hX1.c0
  have cT1 := hX1.c1
  have cT2 := hX1.c2
  have cT3 := hX1.c3
  have cT4 := hX1.c4
  clear hb C1 C2 HX5 HB5 hX1
  cases T with
  | false =>
    obtain ⟨rfl, rfl⟩ := HNO.out (fun g => by have := HG.out.2 g; cases this)
    clear HNO HYES HG C3
    go_wp2_with fail
    refine bodyPost_ret (results_tmp2 rfl _ _ _) rfl ?_
    exact ⟨rfl, HB1.out⟩
  | true =>
    obtain ⟨rfl, rfl⟩ := HYES.out (HG.out.1 rfl)
    clear HNO HYES HG
    go_wp2_with fail
    refine C3.out.mono ?_
    rintro e w2 ⟨rfl, hb⟩
    have HB2 := Lib.hid (HB1.out.trans (hb.mono HB1.out.size))
    clear hb C3 cT0 cT1 cT2 cT3 cT4
    go_wp2_with fail
    refine bodyPost_ret (results_tmp2 rfl _ _ _) rfl ?_
    exact ⟨rfl, HB2.out⟩
end Go.Proofs.Ytdjoiodkmanacaa
