/- Chapter 6: TrustedBound, CommonBound and FewestFaults of the model. -/
import Derived.Test.YteeljlpbijmhlaaSeR
namespace Go.Proofs.Yteeljlpbijmhlaa
open Go.RowKit Go.PlainAid Go.Sort
set_option linter.unusedVariables false
set_option linter.unusedSimpArgs false

set_option maxRecDepth 100000 in
set_option maxHeartbeats 2000000 in
theorem truS_any {w : World} {B n : Nat} {A : Option Addr} {vs : List TBound} (c : Nat) (h : IsBounds w B A n vs) (hm : n ≤ 1048576) (f : Int) (R0 R1 : Int) (x : Bool) (hA : TruA vs f R0 R1 x) :
    Calls Try.prog 43 #[.slice A n c, .int .i64 f] w fun e w' => e = .returned (.tuple #[.agg #[.int .i64 R0, .int .i64 R1], .bool x]) ∧ Below w.heap.size w w' := by
  have hb0 := below1q w (.cells #[.int .i64 0, .int .i64 0] 46)
  have C1 := Lib.hid (l6Bounds_any c (h.below hb0 h.low) hm)
  have C2 := Lib.hid (fun W => l1In_any f 0 ((n : Int) - 1) W)
  have P0 := Lib.hid (BoxB.new w 0 0)
  have PB := Lib.hid hb0
  by_cases hs : bndS vs
  · rw [decide_eq_true hs] at C1
    by_cases hf : 0 ≤ f ∧ f ≤ (n : Int) - 1
    · obtain ⟨fn, rfl⟩ : ∃ fn : Nat, f = fn := ⟨f.toNat, by omega⟩
      rw [decide_eq_true hf] at C2
      obtain ⟨m, hmn⟩ : ∃ m, n - fn = m := ⟨_, rfl⟩
      have hmi : (n : Int) - (fn : Int) = (m : Int) := by omega
      have hn8 : n ≤ 8 := by rw [← h.len]; exact hs.2.2
      have C3 := Lib.hid (fun (W : World) (hW : Below w.heap.size w W) => l6Trusted_any c (h.below hW h.low) hm hs m (by omega))
      have HA : Hid ((hasK vs m n → R0 = lowV vs m n ∧ R1 = highK vs m n ∧ x = true) ∧ (¬ hasK vs m n → R0 = 0 ∧ R1 = 0 ∧ x = false)) := Lib.hid (by
        have e : vs.length - ((fn : Int)).toNat = m := by rw [h.len, Int.toNat_natCast]; exact hmn
        have h1 := hA.1
        have h2 := hA.2
        rw [e, h.len] at h1 h2
        exact ⟨fun g => by rw [lowV, if_pos g]; exact h1 ⟨hs, hf.1, hf.2, g⟩, fun g => h2 (fun q => g q.2.2.2)⟩)
      have hn1 : (n : Int) - 1 ≤ 8 := by omega
      clear hA h hm hs hb0 hmn
      go_enter Try.func43, Try.ntmps43
      go_wp2_with fail
      refine C1.out.mono ?_
      rintro e w1 ⟨rfl, hb1⟩
      have HB1 := Lib.hid (PB.out.trans (hb1.mono (by simp)))
      have Q0 := Lib.hid (P0.out.all hb1)
      clear hb1 C1 P0 PB
      go_wp2_with fail
      refine (C2.out _).mono ?_
      rintro e w1' ⟨rfl, rfl⟩
      clear C2
      go_wp2_with fail
      refine (C3.out _ HB1.out).mono ?_
      rintro e w2 ⟨rfl, hb2⟩
      by_cases hh : hasK vs m n
      · obtain ⟨rfl, rfl, rfl⟩ := HA.out.1 hh
        rw [decide_eq_true hh]
        obtain ⟨lv, hlv⟩ : ∃ x, lowV vs m n = x := ⟨_, rfl⟩
        obtain ⟨hv, hhv⟩ : ∃ x, highK vs m n = x := ⟨_, rfl⟩
        rw [hlv, hhv]
        have HL := Lib.hid (And.intro hlv hhv)
        clear hlv hhv HA hh C3
        have HB2 := Lib.hid ((HB1.out.trans (hb2.mono HB1.out.size)).trans ((below1q w2 (.cells #[.int .i64 lv, .int .i64 hv] 46)).mono (Nat.le_trans HB1.out.size hb2.size)))
        have Q2 := Lib.hid ((Q0.out.all hb2).all (below1q w2 (.cells #[.int .i64 lv, .int .i64 hv] 46)))
        clear hb2 Q0 HB1
        have c0 := Q2.out.c0
        have c1 := Q2.out.c1
        have f0 := Q2.out.fz 0
        have f1 := Q2.out.fz 1
        go_wp2_with fail
        refine bodyPost_ret (results_rowB rfl _ _ w.heap.size [.int .i64 lv, .int .i64 hv] _ rfl (Q2.out.sets lv hv).rangeAt Try.underlying46 rfl (by kernel_rfl)) rfl ?_
        exact ⟨by rw [HL.out.1, HL.out.2]; rfl, sets2_below HB2.out (Nat.le_refl _) _ _⟩
      · obtain ⟨rfl, rfl, rfl⟩ := HA.out.2 hh
        rw [decide_eq_false hh]
        obtain ⟨lv, hlv⟩ : ∃ x, lowV vs m n = x := ⟨_, rfl⟩
        obtain ⟨hv, hhv⟩ : ∃ x, highK vs m n = x := ⟨_, rfl⟩
        rw [hlv, hhv]
        clear hlv hhv HA hh C3
        have HB2 := Lib.hid ((HB1.out.trans (hb2.mono HB1.out.size)).trans ((below1q w2 (.cells #[.int .i64 lv, .int .i64 hv] 46)).mono (Nat.le_trans HB1.out.size hb2.size)))
        have Q2 := Lib.hid ((Q0.out.all hb2).all (below1q w2 (.cells #[.int .i64 lv, .int .i64 hv] 46)))
        clear hb2 Q0 HB1
        have c0 := Q2.out.c0
        have c1 := Q2.out.c1
        have f0 := Q2.out.fz 0
        have f1 := Q2.out.fz 1
        go_wp2_with fail
        refine bodyPost_ret (results_rowB rfl _ _ w.heap.size [.int .i64 0, .int .i64 0] _ rfl (Q2.out.sets 0 0).rangeAt Try.underlying46 rfl (by kernel_rfl)) rfl ?_
        exact ⟨rfl, sets2_below HB2.out (Nat.le_refl _) _ _⟩
    · obtain ⟨rfl, rfl, rfl⟩ := hA.2 (fun g => hf ⟨g.2.1, by have := g.2.2.1; rw [h.len] at this; exact this⟩)
      rw [decide_eq_false hf] at C2
      have hn8 : n ≤ 8 := by rw [← h.len]; exact hs.2.2
      have hn1 : (n : Int) - 1 ≤ 8 := by omega
      clear hA h hm hs hb0
      go_enter Try.func43, Try.ntmps43
      go_wp2_with fail
      refine C1.out.mono ?_
      rintro e w1 ⟨rfl, hb1⟩
      have HB1 := Lib.hid (PB.out.trans (hb1.mono (by simp)))
      have Q0 := Lib.hid (P0.out.all hb1)
      clear hb1 C1 P0 PB
      go_wp2_with fail
      refine (C2.out _).mono ?_
      rintro e w1' ⟨rfl, rfl⟩
      clear C2
      have c0 := Q0.out.c0
      have c1 := Q0.out.c1
      have f0 := Q0.out.fz 0
      have f1 := Q0.out.fz 1
      go_wp2_with fail
      refine bodyPost_ret (results_rowB rfl _ _ w.heap.size [.int .i64 0, .int .i64 0] _ rfl (Q0.out.sets 0 0).rangeAt Try.underlying46 rfl (by kernel_rfl)) rfl ?_
      exact ⟨rfl, sets2_below HB1.out (Nat.le_refl _) _ _⟩
  · obtain ⟨rfl, rfl, rfl⟩ := hA.2 (fun g => hs g.1)
    rw [decide_eq_false hs] at C1
    clear hA h hm hs hb0 C2
    go_enter Try.func43, Try.ntmps43
    go_wp2_with fail
    refine C1.out.mono ?_
    rintro e w1 ⟨rfl, hb1⟩
    have HB1 := Lib.hid (PB.out.trans (hb1.mono (by simp)))
    have Q0 := Lib.hid (P0.out.all hb1)
    clear hb1 C1 P0 PB
    have c0 := Q0.out.c0
    have c1 := Q0.out.c1
    have f0 := Q0.out.fz 0
    have f1 := Q0.out.fz 1
    go_wp2_with fail
    refine bodyPost_ret (results_rowB rfl _ _ w.heap.size [.int .i64 0, .int .i64 0] _ rfl (Q0.out.sets 0 0).rangeAt Try.underlying46 rfl (by kernel_rfl)) rfl ?_
    exact ⟨rfl, sets2_below HB1.out (Nat.le_refl _) _ _⟩

set_option maxRecDepth 100000 in
set_option maxHeartbeats 2000000 in
theorem comS_any {w : World} {B n : Nat} {A : Option Addr} {vs : List TBound} (c : Nat) (h : IsBounds w B A n vs) (hm : n ≤ 1048576) (R0 R1 : Int) (x : Bool) (hA : ComA vs R0 R1 x) :
    Calls Try.prog 38 #[.slice A n c] w fun e w' => e = .returned (.tuple #[.agg #[.int .i64 R0, .int .i64 R1], .bool x]) ∧ Below w.heap.size w w' := by
  have hb0 := below1q w (.cells #[.int .i64 0, .int .i64 0] 46)
  have C1 := Lib.hid (l6Bounds_any c (h.below hb0 h.low) hm)
  have P0 := Lib.hid (BoxB.new w 0 0)
  have PB := Lib.hid hb0
  by_cases hs : bndS vs
  · rw [decide_eq_true hs] at C1
    have hn8 : n ≤ 8 := by rw [← h.len]; exact hs.2.2
    have C3 := Lib.hid (fun (W : World) (hW : Below w.heap.size w W) => l6Trusted_any c (h.below hW h.low) hm hs n (by omega))
    have HA : Hid ((hasK vs n n → R0 = lowV vs n n ∧ R1 = highK vs n n ∧ x = true) ∧ (¬ hasK vs n n → R0 = 0 ∧ R1 = 0 ∧ x = false)) := Lib.hid (by
      have h1 := hA.1
      have h2 := hA.2
      rw [h.len] at h1 h2
      exact ⟨fun g => by rw [lowV, if_pos g]; exact h1 ⟨hs, g⟩, fun g => h2 (fun q => g q.2)⟩)
    clear hA h hm hs hb0
    go_enter Try.func38, Try.ntmps38
    go_wp2_with fail
    refine C1.out.mono ?_
    rintro e w1 ⟨rfl, hb1⟩
    have HB1 := Lib.hid (PB.out.trans (hb1.mono (by simp)))
    have Q0 := Lib.hid (P0.out.all hb1)
    clear hb1 C1 P0 PB
    go_wp2_with fail
    refine (C3.out _ HB1.out).mono ?_
    rintro e w2 ⟨rfl, hb2⟩
    by_cases hh : hasK vs n n
    · obtain ⟨rfl, rfl, rfl⟩ := HA.out.1 hh
      rw [decide_eq_true hh]
      obtain ⟨lv, hlv⟩ : ∃ x, lowV vs n n = x := ⟨_, rfl⟩
      obtain ⟨hv, hhv⟩ : ∃ x, highK vs n n = x := ⟨_, rfl⟩
      rw [hlv, hhv]
      have HL := Lib.hid (And.intro hlv hhv)
      clear hlv hhv HA hh C3
      have HB2 := Lib.hid ((HB1.out.trans (hb2.mono HB1.out.size)).trans ((below1q w2 (.cells #[.int .i64 lv, .int .i64 hv] 46)).mono (Nat.le_trans HB1.out.size hb2.size)))
      have Q2 := Lib.hid ((Q0.out.all hb2).all (below1q w2 (.cells #[.int .i64 lv, .int .i64 hv] 46)))
      clear hb2 Q0 HB1
      have c0 := Q2.out.c0
      have c1 := Q2.out.c1
      have f0 := Q2.out.fz 0
      have f1 := Q2.out.fz 1
      go_wp2_with fail
      refine bodyPost_ret (results_rowB rfl _ _ w.heap.size [.int .i64 lv, .int .i64 hv] _ rfl (Q2.out.sets lv hv).rangeAt Try.underlying46 rfl (by kernel_rfl)) rfl ?_
      exact ⟨by rw [HL.out.1, HL.out.2]; rfl, sets2_below HB2.out (Nat.le_refl _) _ _⟩
    · obtain ⟨rfl, rfl, rfl⟩ := HA.out.2 hh
      rw [decide_eq_false hh]
      obtain ⟨lv, hlv⟩ : ∃ x, lowV vs n n = x := ⟨_, rfl⟩
      obtain ⟨hv, hhv⟩ : ∃ x, highK vs n n = x := ⟨_, rfl⟩
      rw [hlv, hhv]
      clear hlv hhv HA hh C3
      have HB2 := Lib.hid ((HB1.out.trans (hb2.mono HB1.out.size)).trans ((below1q w2 (.cells #[.int .i64 lv, .int .i64 hv] 46)).mono (Nat.le_trans HB1.out.size hb2.size)))
      have Q2 := Lib.hid ((Q0.out.all hb2).all (below1q w2 (.cells #[.int .i64 lv, .int .i64 hv] 46)))
      clear hb2 Q0 HB1
      have c0 := Q2.out.c0
      have c1 := Q2.out.c1
      have f0 := Q2.out.fz 0
      have f1 := Q2.out.fz 1
      go_wp2_with fail
      refine bodyPost_ret (results_rowB rfl _ _ w.heap.size [.int .i64 0, .int .i64 0] _ rfl (Q2.out.sets 0 0).rangeAt Try.underlying46 rfl (by kernel_rfl)) rfl ?_
      exact ⟨rfl, sets2_below HB2.out (Nat.le_refl _) _ _⟩
  · obtain ⟨rfl, rfl, rfl⟩ := hA.2 (fun g => hs g.1)
    rw [decide_eq_false hs] at C1
    clear hA h hm hs hb0
    go_enter Try.func38, Try.ntmps38
    go_wp2_with fail
    refine C1.out.mono ?_
    rintro e w1 ⟨rfl, hb1⟩
    have HB1 := Lib.hid (PB.out.trans (hb1.mono (by simp)))
    have Q0 := Lib.hid (P0.out.all hb1)
    clear hb1 C1 P0 PB
    have c0 := Q0.out.c0
    have c1 := Q0.out.c1
    have f0 := Q0.out.fz 0
    have f1 := Q0.out.fz 1
    go_wp2_with fail
    refine bodyPost_ret (results_rowB rfl _ _ w.heap.size [.int .i64 0, .int .i64 0] _ rfl (Q0.out.sets 0 0).rangeAt Try.underlying46 rfl (by kernel_rfl)) rfl ?_
    exact ⟨rfl, sets2_below HB1.out (Nat.le_refl _) _ _⟩

set_option maxRecDepth 100000 in
set_option maxHeartbeats 2000000 in
theorem fewS_any {w : World} {B n : Nat} {A : Option Addr} {vs : List TBound} (c : Nat) (h : IsBounds w B A n vs) (hm : n ≤ 1048576) (m : Int) (x : Bool) (hA : FewA vs m x) :
    Calls Try.prog 45 #[.slice A n c] w fun e w' => e = .returned (.tuple #[.int .i64 m, .bool x]) ∧ Below w.heap.size w w' := by
  have C1 := Lib.hid (l6Bounds_any c h hm)
  by_cases hs : bndS vs
  · rw [decide_eq_true hs] at C1
    have hn8 : n ≤ 8 := by rw [← h.len]; exact hs.2.2
    have C3 := Lib.hid (fun (W : World) (hW : Below w.heap.size w W) (j : Nat) (hj : j ≤ 8) => l6Trusted_any c (h.below hW h.low) hm hs j hj)
    have HH := Lib.hid (fun (f : Nat) (hf : f < n) (hg : hasK vs (n - f) n) (hn : ∀ j, j < f → ¬ hasK vs (n - j) n) => fewA_hit hA hs (by rw [h.len]; exact hf) (by rw [h.len]; exact hg) (by rw [h.len]; exact hn))
    have HM : Hid ((∀ j, j < n → ¬ hasK vs (n - j) n) → m = 0 ∧ x = false) := Lib.hid (fun g => fewA_miss hA (.inr (by rw [h.len]; exact g)))
    clear hA h hm hs
    go_enter Try.func45, Try.ntmps45
    go_wp2_with fail
    refine C1.out.mono ?_
    rintro e w1 ⟨rfl, hb1⟩
    have HB1 := Lib.hid hb1
    clear hb1 C1
    go_wp2_with fail
    go_loopw [4] (fun i wr => ∃ k : Nat, k ≤ n ∧ i = .int .i64 k ∧ Hid (∀ j, j < k → ¬ hasK vs (n - j) n) ∧ Below w.heap.size w wr) (fun i _ => n - (intOf i).toNat)
    case atStart => exact ⟨0, Nat.zero_le _, rfl, Lib.hid (fun j hj => absurd hj (by omega)), HB1.out⟩
    case round =>
      clear HB1
      obtain ⟨k, hk, rfl, hno, hb⟩ := hrel
      have HB := Lib.hid hb
      by_cases hlt : k < n
      · obtain ⟨d, hd⟩ : ∃ d, n - k = d := ⟨_, rfl⟩
        have hdi : (n : Int) - (k : Int) = (d : Int) := by omega
        have C := Lib.hid (C3.out wr hb d (by omega))
        have HHk : Hid (hasK vs d n → m = k ∧ x = true) := Lib.hid (fun g => HH.out k hlt (by rw [hd]; exact g) hno.out)
        have HNk : Hid (¬ hasK vs d n → ∀ j, j < k + 1 → ¬ hasK vs (n - j) n) := Lib.hid (fun g j hj => by
          rcases Nat.lt_succ_iff_lt_or_eq.1 hj with h1 | rfl
          · exact hno.out j h1
          · rw [hd]; exact g)
        have hk1 : (k : Int) < (n : Int) := by omega
        clear hb C3 HH hno
        obtain ⟨lv, hlv⟩ : ∃ x, lowV vs d n = x := ⟨_, rfl⟩
        obtain ⟨hv, hhv⟩ : ∃ x, highK vs d n = x := ⟨_, rfl⟩
        rw [hlv, hhv] at C
        clear hlv hhv hd
        by_cases hh : hasK vs d n
        · obtain ⟨rfl, rfl⟩ := HHk.out hh
          rw [decide_eq_true hh] at C
          clear HHk HNk hh HM
          go_wp2_with fail
          refine C.out.mono ?_
          rintro e w2 ⟨rfl, hb2⟩
          have HB2 := Lib.hid ((HB.out.trans (hb2.mono HB.out.size)).trans ((below1q w2 (.cells #[.int .i64 lv, .int .i64 hv] 46)).mono (Nat.le_trans HB.out.size hb2.size)))
          clear hb2 C HB
          go_wp2_with fail
          refine bodyPost_ret (results_tmp2 rfl _ _ _) rfl ?_
          exact ⟨rfl, HB2.out⟩
        · have HR := Lib.hid (HNk.out hh)
          rw [decide_eq_false hh] at C
          clear HHk HNk hh
          go_wp2_with fail
          refine C.out.mono ?_
          rintro e w2 ⟨rfl, hb2⟩
          have HB2 := Lib.hid ((HB.out.trans (hb2.mono HB.out.size)).trans ((below1q w2 (.cells #[.int .i64 lv, .int .i64 hv] 46)).mono (Nat.le_trans HB.out.size hb2.size)))
          clear hb2 C HB
          go_wp2_with fail
          go_roundw
          case rel => exact ⟨k + 1, by omega, by go_num, HR, HB2.out⟩
          case measure => simp [intOf]; omega
      · obtain rfl : k = n := by omega
        obtain ⟨rfl, rfl⟩ := HM.out hno.out
        clear hb C3 HH HM hno
        go_wp2_with fail
        refine bodyPost_ret (results_tmp2 rfl _ _ _) rfl ?_
        exact ⟨rfl, HB.out⟩
  · obtain ⟨rfl, rfl⟩ := fewA_miss hA (.inl hs)
    rw [decide_eq_false hs] at C1
    clear hA h hm hs
    go_enter Try.func45, Try.ntmps45
    go_wp2_with fail
    refine C1.out.mono ?_
    rintro e w1 ⟨rfl, hb1⟩
    have HB1 := Lib.hid hb1
    clear hb1 C1
    go_wp2_with fail
    refine bodyPost_ret (results_tmp2 rfl _ _ _) rfl ?_
    exact ⟨rfl, HB1.out⟩
end Go.Proofs.Yteeljlpbijmhlaa
