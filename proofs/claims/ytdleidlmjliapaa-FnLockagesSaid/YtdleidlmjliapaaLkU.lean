/- Chapter 8, the program: the best order. -/
import Derived.Test.YtdleidlmjliapaaLkT
namespace Go.Proofs.Ytdleidlmjliapaa
open Go.RowKit Go.PlainAid Go.Sort
set_option linter.unusedVariables false
set_option linter.unusedSimpArgs false

theorem own_capI {w : World} {base : Nat} {e : TypeId} {g n c : Nat} {xs : List Value} {z : Nat} (h : w.ownsRow base e z (.slice (some ⟨g, 0, none⟩) n c) n xs) : n ≤ c := by
  rcases h.2 with ⟨h1, h2⟩ | ⟨g, cap, cur, h1, -, -, h2, -⟩
  · cases h1
  · injection h1 with _ _ h3; omega
theorem bestA_can {vs : List TArrival} {h : Bool} {m : Int} {L : List Int} {z : Int} {x : Bool} (hA : BestA vs h m L z x) (hc : (gAs vs && decide (1 ≤ m ∧ m ≤ 60)) = false) : L = [] ∧ z = 0 ∧ x = false :=
  hA.2 (by rw [Bool.and_eq_false_iff] at hc; exact hc)
/-- What the program hands back: a row of its own, or nothing where there is nobody. -/
def GivesN (w : World) (L : List Int) (l : Nat) (z : Int) (x : Bool) (e : Ending) (w' : World) : Prop :=
  ∃ v, e = .returned (.tuple #[v, .int .i64 z, .bool x]) ∧ w'.ownsRow w.heap.size 3 1 v l (L.map (.int .i64)) ∧ Below w.heap.size w w' ∧ (x = false → v ≠ .slice none 0 0)
set_option maxRecDepth 100000 in
set_option maxHeartbeats 4000000 in
theorem bestI_any {w : World} {B : Nat} {A : Option Addr} {n : Nat} {vs : List TArrival} (c : Nat) (h : IsArrivals w B A n vs) (hm : n ≤ 1048576) (hgh : Bool) (m : Int) (L : List Int) (z : Int) (x : Bool) (hA : BestA vs hgh m L z x) (l : Nat) (hl : L.length = l) :
    Calls Try.prog 22 #[.slice A n c, .bool hgh, .int .i64 m] w (GivesN w L l z x) := by
  obtain ⟨W3, hW3⟩ : ∃ W, ((w.alloc (.cells #[.slice A n c] 45)).alloc (.cells #[.bool hgh] 4)).alloc (.cells #[.int .i64 m] 3) = W := ⟨_, rfl⟩
  obtain ⟨lb, hlb⟩ : ∃ x, w.heap.size = x := ⟨_, rfl⟩
  have hb3 : Below w.heap.size w W3 := by rw [← hW3]; exact ((below2 w _ _).trans ((below1 _ _).mono (by simp; omega)))
  have hs3 : W3.heap.size = lb + 3 := by rw [← hW3, ← hlb]; simp
  have b0 : Box1 W3 lb 45 (.slice A n c) := by
    rw [← hW3, ← hlb]
    exact ((heap_alloc_old _ _ (by simp; omega)).trans (heap_alloc_old _ _ (by simp))).trans (heap_alloc_new w _)
  have b1 : Box1 W3 (lb + 1) 4 (.bool hgh) := by
    rw [← hW3, ← hlb]
    have := heap_alloc_new (w.alloc (.cells #[.slice A n c] 45)) (.cells #[.bool hgh] 4)
    rw [World.size_alloc] at this
    exact (heap_alloc_old _ _ (by simp)).trans this
  have b2 : Box1 W3 (lb + 1 + 1) 3 (.int .i64 m) := by
    rw [← hW3, ← hlb]
    have := heap_alloc_new ((w.alloc (.cells #[.slice A n c] 45)).alloc (.cells #[.bool hgh] 4)) (.cells #[.int .i64 m] 3)
    rw [World.size_alloc, World.size_alloc] at this
    exact this
  have CC := Lib.hid (canLock_any c (h.below hb3 h.low) hm m)
  have HI := Lib.hid (h.below hb3 h.low)
  have HBL := Lib.hid (show B ≤ lb by rw [← hlb]; exact h.low)
  have HNO := Lib.hid (bestA_can hA)
  have HYES := Lib.hid hA.1
  have HM := Lib.hid hl
  obtain ⟨K, hK⟩ : ∃ K, (gAs vs && decide (1 ≤ m ∧ m ≤ 60)) = K := ⟨_, rfl⟩
  rw [hK] at CC HNO
  have HKE := Lib.hid hK
  have c0 := b0.c
  have c1 := b1.c
  have c2 := b2.c
  have B0 := Lib.hid b0
  have B1 := Lib.hid b1
  have B2 := Lib.hid b2
  have HB3 := Lib.hid hb3
  have HS3 := Lib.hid hs3
  clear h hA hl hK b0 b1 b2 hb3
  go_enter Try.func22, Try.ntmps22
  go_wp2_with fail
  (try rw [hW3])
  refine CC.out.mono ?_
  rintro e w4 ⟨rfl, hb⟩
  have D0 := Lib.hid (B0.out.all hb)
  have D1 := Lib.hid (B1.out.all hb)
  have D2 := Lib.hid (B2.out.all hb)
  have HB4 := Lib.hid (HB3.out.trans (hb.mono HB3.out.size))
  have HLE := Lib.hid hb.size
  have HKB := Lib.hid hb
  clear CC c0 c1 c2 B0 B1 B2 hW3 hb
  cases K with
  | false =>
    obtain ⟨rfl, rfl, rfl⟩ := HNO.out rfl
    obtain rfl : 0 = l := HM.out
    clear HNO HYES
    go_wp2_with fail
    go_ret3
    have := OwnZ.nil (w := w) (w0 := w4) HB4.out
    obtain ⟨g, cc, e9, h1, h2, h3⟩ := this
    exact ⟨_, rfl, by rw [← e9] at h2; exact h2, h3, fun _ e => by cases e⟩
  | true =>
    have hcan := Bool.and_eq_true_iff.1 HKE.out
    have hgg := (gAs_iff vs).1 hcan.1
    have HMM := Lib.hid (of_decide_eq_true hcan.2)
    obtain ⟨hL, hz, rfl⟩ := HYES.out hcan.1 hcan.2
    obtain ⟨os, hos⟩ := first_ex hgg vs.length (Nat.le_refl _)
    have hn6 : n ≤ 6 := by rw [← HI.out.len]; exact hgg.1
    have HLZ := Lib.hid (And.intro hL hz)
    obtain ⟨g4, hg4⟩ : ∃ x, w4.heap.size = x := ⟨_, rfl⟩
    obtain ⟨W6, hW6⟩ : ∃ W, ((w4.alloc (.cells #[] 3)).alloc (.cells #[.slice (some ⟨g4, 0, none⟩) 0 0] 46)).alloc (.cells #[.int .i64 9223372036854775807] 3) = W := ⟨_, rfl⟩
    have hb6 : Below w4.heap.size w4 W6 := by rw [← hW6]; exact ((below2 w4 _ _).trans ((below1 _ _).mono (by simp; omega)))
    have hs6 : W6.heap.size = g4 + 3 := by rw [← hW6, ← hg4]; simp
    have hle : lb + 3 ≤ g4 := by rw [← hg4, ← HS3.out]; exact HLE.out
    have bB : Box1 W6 (g4 + 1) 46 (.slice (some ⟨g4, 0, none⟩) 0 0) := by
      rw [← hW6]
      have := heap_alloc_new (w4.alloc (.cells #[] 3)) (.cells #[.slice (some ⟨g4, 0, none⟩) 0 0] 46)
      rw [World.size_alloc, hg4] at this
      exact (heap_alloc_old _ _ (by simp; omega)).trans this
    have bS : Box1 W6 (g4 + 1 + 1) 3 (.int .i64 9223372036854775807) := by
      rw [← hW6]
      have := heap_alloc_new ((w4.alloc (.cells #[] 3)).alloc (.cells #[.slice (some ⟨g4, 0, none⟩) 0 0] 46)) (.cells #[.int .i64 9223372036854775807] 3)
      rw [World.size_alloc, World.size_alloc, hg4] at this
      exact this
    have hO6 : W6.ownsRow w.heap.size 3 1 (.slice (some ⟨g4, 0, none⟩) 0 0) 0 (([] : List Int).map (.int .i64)) := by
      rw [← hW6, ← hg4]
      exact own_low (((World.ownsRow_made w4 #[] 0 (Nat.le_refl _) (by unfold maxLen; omega) rfl).alloc _).alloc _) HB4.out.size
    have FX : FixB lb (lb + 1) (lb + 1 + 1) (g4 + 1 + 1) (g4 + 1) B A n vs := ⟨rfl, by omega, by omega, by omega, by have := HBL.out; omega⟩
    have hIW : IsArrivals W6 B A n vs := (HI.out.below (by
      have h9 : Below W3.heap.size W3 w4 := HKB.out
      exact h9.trans (hb6.mono h9.size)) HI.out.low)
    have hS6 : BSt lb (lb + 1) (lb + 1 + 1) (g4 + 1 + 1) (g4 + 1) B A n c vs hgh m w.heap.size W6 ([], MX) := ⟨D0.out.all hb6, D1.out.all hb6, D2.out.all hb6, bS, ⟨_, 0, bB, hO6, by simp [Value.ownBlock], by simp [Value.ownBlock]; omega⟩, hIW⟩
    have HB6 := Lib.hid (HB4.out.trans (hb6.mono HB4.out.size))
    have CQ := Lib.hid (queuesOf_any c hIW hm hgg os hos)
    have HEX : Hid (fm (dly vs m hgh) ([], MX) (mgs vs.length [] (quU vs os) (quD vs os)) = bestO vs m hgh) := Lib.hid (by
      unfold bestO
      rw [exts_mgs vs.length [] _ _ (qq_start hgg hos) (by rw [qu_len, hos.len])])
    have HORD := Lib.hid (fun O (hO : O ∈ mgs vs.length [] (quU vs os) (quD vs os)) => (goes_start hgg hos).ord hgg O (by rw [exts_mgs vs.length [] _ _ (qq_start hgg hos) (by rw [qu_len, hos.len])]; exact hO))
    have HQL : Hid ((quU vs os).length + (quD vs os).length = vs.length) := Lib.hid (by rw [qu_len, hos.len])
    have HNL := Lib.hid HI.out.len
    have e0 := hS6.l.c
    have HS6 := Lib.hid hS6
    have HFX := Lib.hid FX
    have HSZ := Lib.hid hs6
    clear hb6 bB bS hO6 hIW hS6 FX HI hcan hL hz hos hgg D0 D1 D2 HYES HNO HKE hs6 hs3 HKB HLE HB4
    go_wp2_with fail
    (try rw [hg4])
    (try rw [hW6])
    clear e0
    refine CQ.out.mono ?_
    rintro e w7 ⟨_, _, rfl, gu, cu, gd, cd, rfl, rfl, hgu, hgd, -, hou, hod, hb7⟩
    have HS7 := Lib.hid (HS6.out.quiet hb7)
    have HB7 := Lib.hid (HB6.out.trans (hb7.mono HB6.out.size))
    have HRU := Lib.hid (RowY.own (sb := g4 + 1 + 1) hou (by have := HSZ.out; omega))
    have HRD := Lib.hid (RowY.own (sb := g4 + 1 + 1) hod (by have := HSZ.out; omega))
    have hcu := own_capI hou
    have hcd := own_capI hod
    obtain ⟨nu, hnu⟩ : ∃ k, (quU vs os).length = k := ⟨_, rfl⟩
    obtain ⟨nd, hnd⟩ : ∃ k, (quD vs os).length = k := ⟨_, rfl⟩
    rw [hnu] at hcu
    rw [hnd] at hcd
    simp only [hnu, hnd]
    have HNU := Lib.hid hnu
    have HND := Lib.hid hnd
    obtain ⟨W8, hW8⟩ : ∃ W, w7.alloc (.cells #[] 3) = W := ⟨_, rfl⟩
    have hb8 : Below w7.heap.size w7 W8 := by rw [← hW8]; exact below1 _ _
    have hk8 : KeepY (g4 + 1) (g4 + 1 + 1) w7.heap.size w7 W8 := KeepY.of hb8
    have hRT : RowY (g4 + 1 + 1) W8 ⟨w7.heap.size, 0, none⟩ [] := ⟨fun j u hu => by simp at hu, by show g4 + 1 + 1 < w7.heap.size; have := HS7.out.lts; omega, by rw [← hW8]; show w7.heap.size < _; simp⟩
    have CM := Lib.hid (merge_any HFX.out hn6 HMM.out vs.length [] (quU vs os) (quD vs os) W8 ([], MX) ⟨w7.heap.size, 0, none⟩ ⟨gu, 0, none⟩ ⟨gd, 0, none⟩ 0 0 nu cu nd cd hRT (HRU.out.keep HFX.out.s1 hk8) (HRD.out.keep HFX.out.s1 hk8) rfl hnu hnd hcu hcd HQL.out (by have := HQL.out; have := HNL.out; omega) HORD.out (Nat.le_trans HB7.out.size hb8.size) (HS7.out.quiet hb8))
    have HB8 := Lib.hid (HB7.out.trans (hb8.mono HB7.out.size))
    clear hgu hgd hou hod hb7 CQ HS6 HB6 HRU HRD hcu hcd hnu hnd hb8 hk8 hRT HS7 HB7 hW6
    go_wp2_with fail
    (try rw [hW8])
    refine CM.out.mono ?_
    rintro e w9 ⟨rfl, hs9, hk9⟩
    rw [HEX.out] at hs9
    have hB9 := HB8.out.trans (hk9.below HB8.out.size (by omega) (by omega))
    have HB9 := Lib.hid hB9
    have HS9 := Lib.hid hs9
    obtain ⟨v, q, hbb, hob, -, -⟩ := hs9.b
    have s0 := hs9.s.c
    have b0 := hbb.c
    have S0 := fun (d : Nat) (os : Array Obj) => cell_regrown s0 d os
    have B0 := fun (d : Nat) (os : Array Obj) => cell_regrown b0 d os
    have HOB := Lib.hid hob
    rw [← HLZ.out.1] at HOB
    have hzz : (bestO vs m hgh).2 = z := HLZ.out.2.symm
    rw [hzz] at S0
    clear CM hW8 hB9 hs9 hk9 hbb hob s0 b0 HEX HLZ hzz HS9
    go_wp2_with fail
    refine wp_region_quiet_below (by kernel_rfl) (by kernel_rfl) ?_
    repeat (go_big_quiet_step (first | fail))
    refine wpQuiet_nil ?_
    intro _ hw'
    obtain ⟨⟨dq, osq⟩, hw''⟩ := hw'
    subst hw''
    have HBX := Lib.hid (HB9.out.trans ((below_regrown w9 dq osq).mono HB9.out.size))
    clear S0 B0
    go_wp2_with fail
    go_ret3
    refine ⟨v, rfl, ?_, HBX.out, fun e => by cases e⟩
    have := own_below HOB.out (below_regrown w9 dq osq)
    have hql : q = l := by have h9 := this.1; rw [List.length_map, HM.out] at h9; omega
    rw [hql] at this
    exact this
theorem bestO_nil {vs : List TArrival} (h : vs.length = 0) (m : Int) (hg : Bool) : bestO vs m hg = ([], 0) := by
  obtain rfl := List.eq_nil_of_length_eq_zero h
  have e1 : exts ([] : List TArrival) 0 [] = [[]] := rfl
  have e2 : dly [] m hg [] = 0 := by simp [dly, lks, lkSt, delL]
  show fm (dly [] m hg) ([], MX) (exts [] 0 []) = _
  rw [e1]
  show fmS (dly [] m hg) ([], MX) [] = _
  unfold fmS
  rw [e2, if_pos (by decide)]
theorem bestA_nil {vs : List TArrival} (h : vs.length = 0) (m : Int) (hg : Bool) (hmm : 1 ≤ m ∧ m ≤ 60) : BestA vs hg m [] 0 true := by
  refine ⟨fun _ _ => by rw [bestO_nil h]; exact ⟨rfl, rfl, rfl⟩, fun k => ?_⟩
  exfalso
  obtain rfl := List.eq_nil_of_length_eq_zero h
  rcases k with k | k
  · rw [gAs_yes ⟨by simp, fun k hk => absurd hk (by simp)⟩] at k; cases k
  · exact of_decide_eq_false k hmm
theorem bestI0_any {w : World} {B : Nat} {A : Option Addr} {n : Nat} {vs : List TArrival} (c : Nat) (h : IsArrivals w B A n vs) (hm : n ≤ 1048576) (hgh : Bool) (m : Int) (h0 : n = 0) (hmm : 1 ≤ m ∧ m ≤ 60) (l : Nat) (hl : ([] : List Int).length = l) :
    Calls Try.prog 22 #[.slice A n c, .bool hgh, .int .i64 m] w fun e w' => ∃ A2 c2, e = .returned (.tuple #[.slice A2 l c2, .int .i64 0, .bool true]) ∧ Below w.heap.size w w' := by
  refine (bestI_any c h hm hgh m [] 0 true (bestA_nil (by rw [h.len]; exact h0) m hgh hmm) l hl).mono ?_
  rintro e w' ⟨v, rfl, ho, hb, -⟩
  obtain ⟨A2, c2, rfl⟩ := own_form2 ho
  exact ⟨A2, c2, rfl, hb⟩
theorem bestI1_any {w : World} {B : Nat} {A : Option Addr} {n : Nat} {vs : List TArrival} (c : Nat) (h : IsArrivals w B A n vs) (hm : n ≤ 1048576) (hgh : Bool) (m : Int) (L : List Int) (z : Int) (x : Bool) (hA : BestA vs hgh m L z x) (hne : ¬ (n = 0 ∧ 1 ≤ m ∧ m ≤ 60)) (l : Nat) (hl : L.length = l) :
    Calls Try.prog 22 #[.slice A n c, .bool hgh, .int .i64 m] w (GivesZ3 w L l z x) := by
  refine (bestI_any c h hm hgh m L z x hA l hl).mono ?_
  rintro e w' ⟨v, rfl, ho, hb, hx⟩
  obtain ⟨g, cc, rfl, -⟩ := own_some ho (fun e => by
    cases x with
    | false => exact hx rfl e
    | true =>
      have h3 := ho.2
      rw [e] at h3
      rcases h3 with ⟨-, h9⟩ | ⟨_, _, _, h9, -⟩
      · cases e1 : gAs vs with
        | false => have := (hA.2 (.inl e1)).2.2; cases this
        | true =>
          cases e2 : decide (1 ≤ m ∧ m ≤ 60) with
          | false => have := (hA.2 (.inr e2)).2.2; cases this
          | true =>
            have hgg := (gAs_iff vs).1 e1
            have hmm : 1 ≤ m ∧ m ≤ 60 := of_decide_eq_true e2
            obtain ⟨os, hos⟩ := first_ex hgg vs.length (Nat.le_refl _)
            have h7 := (bestO_ord hgh hgg hmm hos).1.2.1
            rw [← (hA.1 e1 e2).1, hl, h9, h.len] at h7
            exact hne ⟨h7.symm, hmm⟩
      · cases h9)
  exact ⟨g, cc, rfl, ho, hb⟩
theorem BestA.len {vs : List TArrival} {h : Bool} {m : Int} {L : List Int} {z : Int} {x : Bool} (hA : BestA vs h m L z x) : L.length ≤ 6 := by
  cases e1 : gAs vs with
  | false => rw [(hA.2 (.inl e1)).1]; simp
  | true =>
    cases e2 : decide (1 ≤ m ∧ m ≤ 60) with
    | false => rw [(hA.2 (.inr e2)).1]; simp
    | true =>
      have hgg := (gAs_iff vs).1 e1
      obtain ⟨os, hos⟩ := first_ex hgg vs.length (Nat.le_refl _)
      rw [(hA.1 e1 e2).1]
      exact (bestO_ord h hgg (of_decide_eq_true e2) hos).1.le6
end Go.Proofs.Ytdleidlmjliapaa
