/- Chapter 8, the model: the delay, and what LockageTimes, LockageDelay, EmptyTurns and LastLockage answer. -/
import Derived.Test.YtdleidlmjliapaaLkE
namespace Go.Proofs.Ytdleidlmjliapaa
open Go.RowKit Go.PlainAid Go.Sort
set_option linter.unusedVariables false
set_option linter.unusedSimpArgs false

theorem timesL_at {L : List Tlockage} {k : Nat} (h : k < L.length) : (timesL L).getD k 0 = (L.getD k nolockage).x2 := by
  unfold timesL
  rw [List.getD_eq_getElem?_getD, List.getElem?_map, List.getD_eq_getElem?_getD, List.getElem?_eq_getElem h]; rfl
theorem timesL_len (L : List Tlockage) : (timesL L).length = L.length := by unfold timesL; simp
theorem gO_false {vs : List TArrival} {m : Int} {os : List Int} (h : oA vs os = false ∨ decide (1 ≤ m ∧ m ≤ 60) = false) : gO vs m os = false := by
  unfold gO; rcases h with h | h <;> rw [h] <;> simp
theorem gO_true {vs : List TArrival} {m : Int} {os : List Int} (h : oA vs os = true) (k : decide (1 ≤ m ∧ m ≤ 60) = true) : gO vs m os = true := by
  unfold gO; rw [h, k]; rfl
/-- Both ways of an answer. -/
def Ways (vs : List TArrival) (m : Int) (os : List Int) (yes no : Prop) : Prop := (oA vs os = true → decide (1 ≤ m ∧ m ≤ 60) = true → yes) ∧ (oA vs os = false ∨ decide (1 ≤ m ∧ m ≤ 60) = false → no)
theorem lkA_ways {vs : List TArrival} {h : Bool} {m : Int} {os : List Int} {L : List Tlockage} {x : Bool} (hA : LkA vs h m os L x) : Ways vs m os (L = lks vs m h os ∧ x = true) (L = [] ∧ x = false) :=
  ⟨fun a b => hA.1 (gO_true a b), fun a => hA.2 (gO_false a)⟩
theorem TimesA.ways {vs : List TArrival} {h : Bool} {m : Int} {os : List Int} {T : List Int} {x : Bool} (hA : TimesA vs h m os T x) : Ways vs m os (T = timesL (lks vs m h os) ∧ x = true) (T = [] ∧ x = false) := by
  obtain ⟨L, hL, rfl⟩ := hA
  have := lkA_ways hL
  exact ⟨fun a b => by rw [(this.1 a b).1]; exact ⟨rfl, (this.1 a b).2⟩, fun a => by rw [(this.2 a).1]; exact ⟨rfl, (this.2 a).2⟩⟩
theorem DelayA.ways {vs : List TArrival} {h : Bool} {m : Int} {os : List Int} {z : Int} {x : Bool} (hA : DelayA vs h m os z x) : Ways vs m os (z = delL vs (lks vs m h os) ∧ x = true) (z = 0 ∧ x = false) := by
  obtain ⟨L, hL, rfl⟩ := hA
  have := lkA_ways hL
  exact ⟨fun a b => by rw [(this.1 a b).1]; exact ⟨rfl, (this.1 a b).2⟩, fun a => by rw [(this.2 a).1]; exact ⟨rfl, (this.2 a).2⟩⟩
theorem TurnA.ways {vs : List TArrival} {h : Bool} {os : List Int} {z : Int} {x : Bool} (hA : TurnA vs h os z x) : Ways vs 1 os (z = trnL (lks vs 1 h os) ∧ x = true) (z = 0 ∧ x = false) := by
  obtain ⟨L, hL, rfl⟩ := hA
  have := lkA_ways hL
  exact ⟨fun a b => by rw [(this.1 a b).1]; exact ⟨rfl, (this.1 a b).2⟩, fun a => by rw [(this.2 a).1]; exact ⟨rfl, (this.2 a).2⟩⟩
theorem LastA.ways {vs : List TArrival} {h : Bool} {m : Int} {os : List Int} {z : Int} {x : Bool} (hA : LastA vs h m os z x) : Ways vs m os ((z = if lks vs m h os = [] then 0 else ((lks vs m h os).getD ((lks vs m h os).length - 1) nolockage).x2 + m) ∧ x = true) (z = 0 ∧ x = false) := by
  obtain ⟨L, hL, rfl⟩ := hA
  have := lkA_ways hL
  exact ⟨fun a b => by rw [(this.1 a b).1]; exact ⟨rfl, (this.1 a b).2⟩, fun a => by rw [(this.2 a).1]; exact ⟨rfl, (this.2 a).2⟩⟩

set_option maxRecDepth 100000 in
set_option maxHeartbeats 4000000 in
theorem l8Delay_any {w : World} {B B2 : Nat} {A A2 : Option Addr} {n n2 : Nat} {vs : List TArrival} {os : List Int} (c c2 : Nat) (h : IsArrivals w B A n vs) (hm : n ≤ 6) (h2 : IsIs w B2 A2 n2 os) (hm2 : n2 ≤ 6) (hi : Bool) (m : Int) (hmm : 1 ≤ m ∧ m ≤ 60) (hg : goodAs vs) (hr : ∀ p, p < n2 → inA n (os.getD p 0)) :
    Calls Try.prog 53 #[.slice A n c, .bool hi, .int .i64 m, .slice A2 n2 c2] w fun e w' => e = .returned (.int .i64 (delL vs (lks vs m hi os))) ∧ Below w.heap.size w w' := by
  have CT := Lib.hid (l8Times_any c c2 h hm h2 hm2 hi m hmm hg hr)
  have HI := Lib.hid h
  have HO := Lib.hid h2
  have HR := Lib.hid hr
  have hr' : ∀ p, p < os.length → inA vs.length (os.getD p 0) := fun p hp => by rw [h.len]; exact hr p (by rw [← h2.len]; exact hp)
  have hlen := lks_len (h := hi) hmm (good_in hg hr')
  have HE := Lib.hid (fun j (hj : j < n2) => lks_each (h := hi) hg hmm (by rw [h2.len]; exact hm2) hr' (j := j) (by rw [h2.len]; exact hj))
  generalize lks vs m hi os = L at CT hlen HE ⊢
  rw [h2.len] at hlen
  have HL := Lib.hid hlen
  have HW := Lib.hid (fun j (hj : j < L.length) => wgt_bd (HE.out j (by rw [← hlen]; exact hj)) (by
    have := (HE.out j (by rw [← hlen]; exact hj)).g.2.1.1
    rwa [(HE.out j (by rw [← hlen]; exact hj)).i] at this))
  have HBD := Lib.hid (fun k (hk : k ≤ L.length) => delL_bd HW.out k hk)
  have HT : Hid (∀ k, k < n2 → (timesL L).getD k 0 = (L.getD k nolockage).x2) := Lib.hid (fun k hk => timesL_at (by omega))
  have HTL : Hid ((timesL L).length = n2) := Lib.hid (by rw [timesL_len, hlen])
  generalize timesL L = T at CT HT HTL
  clear h h2 hr hg hr' hlen
  go_enter Try.func53, Try.ntmps53
  go_wp2_with fail
  refine CT.out.mono ?_
  rintro e w1 ⟨v, rfl, hO⟩
  obtain ⟨g9, c9, rfl, hT9⟩ := hO.is
  have HT9 := Lib.hid hT9
  have HB1 := Lib.hid hO.low
  clear hO hT9 CT
  go_wp2_with fail
  go_loopw [10, 11] (fun z i wr => ∃ k : Nat, k ≤ n2 ∧ i = .int .i64 k ∧ z = .int .i64 (delL vs (L.take k)) ∧ Below w1.heap.size w1 wr) (fun _ i _ => n2 - (intOf i).toNat)
  case atStart => exact ⟨0, Nat.zero_le _, rfl, rfl, Below.refl _ _⟩
  case round =>
    obtain ⟨k, hk, rfl, rfl, hb⟩ := hrel
    have hbw := HB1.out.trans (hb.mono HB1.out.size)
    by_cases hlt : k < n2
    · obtain ⟨a2, rfl, -, f0⟩ := Has.numAt (HO.out.below hbw HO.out.low).has (k := k) (by rw [HO.out.len]; exact hlt)
      obtain ⟨a3, ea3, -, t0⟩ := Has.numAt (HT9.out.below hb (Nat.le_refl _)).has (k := k) (by rw [HTL.out]; exact hlt)
      injection ea3 with ea3
      subst ea3
      have hE := HE.out k hlt
      obtain ⟨j, hj, hjn⟩ := inA_nat (HR.out k hlt)
      have hbd := HBD.out k (by have := HL.out; omega)
      have hwb := HW.out k (by have := HL.out; omega)
      have hsn := delL_snoc (vs := vs) (L := L) (k := k) (by have := HL.out; omega)
      have hei := hE.i
      rw [hj] at f0 hei
      rw [HT.out k hlt] at t0
      obtain ⟨a1, rfl, -, HV⟩ := (HI.out.below hbw HI.out.low).has.Arrival (k := j) (by rw [HI.out.len]; exact hjn)
      have hg := hE.g
      have hw := hE.w
      have hb2 := hE.b
      rw [hj] at hw
      rw [wgt, hei, atA_cast] at hwb hsn
      rw [hei, atA_cast] at hg
      rw [atA_cast] at hw
      rw [hw.1] at hwb hsn
      replace hw := hw.2
      generalize (L.getD k nolockage).x2 = b at t0 hwb hsn hb2
      generalize vs.getD j noArrival = V at HV hg hwb hsn
      obtain ⟨d, u, mi, g⟩ := V
      obtain ⟨e0, e1, e2, e3⟩ := HV
      dsimp only at e0 e1 e2 e3 hg hwb hsn
      obtain ⟨-, hg2, hg3⟩ := hg
      have HSN := Lib.hid hsn
      obtain ⟨s0, hs0⟩ : ∃ s, delL vs (L.take k) = s := ⟨_, rfl⟩
      rw [hs0] at hbd HSN ⊢
      have hk0 : (0 : Int) ≤ (k : Int) := by omega
      have hk1 : (k : Int) < (n2 : Int) := by omega
      have hj0 : (0 : Int) ≤ (j : Int) := by omega
      have hj1 : (j : Int) < (n : Int) := by omega
      have hs1 : s0 ≤ 600000 := by omega
      have HBK := Lib.hid hb
      clear hs0 hsn hE hj hei hb hbw hw HW HBD HT
      go_wp2_with fail
      obtain ⟨W5, hW5⟩ : ∃ W, World.alloc wr (.cells #[.int .i64 d, .bool u, .int .i64 mi, .int .i64 g] 58) = W := ⟨_, rfl⟩
      obtain ⟨xb, hxb⟩ : ∃ x, (wr : World).heap.size = x := ⟨_, rfl⟩
      have cx2 : W5.cell? ⟨xb, 2, none⟩ = some (.int .i64 mi) := by rw [← hW5, ← hxb, sNew]; rfl
      have cx3 : W5.cell? ⟨xb, 3, none⟩ = some (.int .i64 g) := by rw [← hW5, ← hxb, sNew]; rfl
      have hb5 : Below wr.heap.size wr W5 := by rw [← hW5]; exact below1 _ _
      have t1 := (hb5.cell (World.block_lt_of_cell? _ _ t0)).trans t0
      have HB5 := Lib.hid (HBK.out.trans (hb5.mono HBK.out.size))
      (try rw [hW5]); (try rw [hxb])
      clear hW5 hxb hb5 e0 e1 e2 e3 f0 t0 HBK
      have E2 := fun (d : Nat) (os : Array Obj) => cell_regrown cx2 d os
      have E3 := fun (d : Nat) (os : Array Obj) => cell_regrown cx3 d os
      have t2 : W5.cell? ⟨g9, k, none⟩ = some (.int .i64 b) := by rw [addO, Nat.zero_add] at t1; exact t1
      have T1 := fun (d : Nat) (os : Array Obj) => cell_regrown t1 d os
      have T2 := fun (d : Nat) (os : Array Obj) => cell_regrown t2 d os
      clear cx2 cx3 t1 t2
      refine wp_region_quiet_below (by kernel_rfl) (by kernel_rfl) ?_
      repeat (go_big_quiet_step (fail))
      refine wpQuiet_nil ?_
      intro _ hw'
      obtain ⟨⟨dq, osq⟩, hw''⟩ := hw'
      subst hw''
      have HB6 := Lib.hid (HB5.out.trans ((below_regrown W5 dq osq).mono HB5.out.size))
      clear E2 E3 T1 T2
      go_wp2_with fail
      go_roundw
      case rel => exact ⟨k + 1, by omega, by go_num, by rw [HSN.out], HB6.out⟩
      case measure => simp [intOf]; omega
    · obtain rfl : k = n2 := by omega
      have hend : L.take k = L := List.take_of_length_le (by rw [HL.out]; exact Nat.le_refl _)
      rw [hend]
      clear hend
      go_wp2_with fail
      go_ret
      exact ⟨rfl, hbw⟩
set_option maxRecDepth 100000 in
set_option maxHeartbeats 2000000 in
theorem timesS_any {w : World} {B B2 : Nat} {A A2 : Option Addr} {n n2 : Nat} {vs : List TArrival} {os : List Int} (c c2 : Nat) (h : IsArrivals w B A n vs) (hm : n ≤ 1048576) (h2 : IsIs w B2 A2 n2 os) (hm2 : n2 ≤ 1048576) (hnc : n2 ≤ c2) (hi : Bool) (m : Int) (L : List Int) (x : Bool) (hA : TimesA vs hi m os L x) (l : Nat) (hl : L.length = l) :
    Calls Try.prog 26 #[.slice A n c, .bool hi, .int .i64 m, .slice A2 n2 c2] w (GivesZ w L l x) := by
  have HM := Lib.hid hl
  have CO := Lib.hid (l8Order_any c c2 h hm h2 hm2 hnc)
  have CM := Lib.hid (fun W => l8Minutes_any m W)
  have HI := Lib.hid h
  have HO := Lib.hid h2
  have HNO := Lib.hid hA.ways.2
  have HYES := Lib.hid hA.ways.1
  obtain ⟨G, hG⟩ : ∃ G, oA vs os = G := ⟨_, rfl⟩
  obtain ⟨D, hD⟩ : ∃ D, decide (1 ≤ m ∧ m ≤ 60) = D := ⟨_, rfl⟩
  rw [hG, hD] at HNO HYES
  rw [hG] at CO
  rw [hD] at CM
  have HGE := Lib.hid hG
  have HDE := Lib.hid hD
  clear h h2 hA hG hD
  clear hl
  go_enter Try.func26, Try.ntmps26
  go_wp2_with fail
  refine CO.out.mono ?_
  rintro e w1 ⟨rfl, hb⟩
  have HB1 := Lib.hid hb
  clear hb CO
  cases G with
  | false =>
    obtain ⟨rfl, rfl⟩ := HNO.out (.inl rfl)
    clear HNO HYES CM
    go_wp2_with fail
    (obtain rfl : 0 = l := HM.out; refine bodyPost_ret (results_tmp2 rfl _ _ _) rfl ?_; exact (OwnZ.nil HB1.out).gives false)
  | true =>
  replace HYES := Lib.hid (HYES.out rfl)
  replace HNO := Lib.hid (fun d => HNO.out (.inr d))
  go_wp2_with fail
  refine (CM.out _).mono ?_
  rintro e w2 ⟨rfl, rfl⟩
  cases D with
  | false =>
    obtain ⟨rfl, rfl⟩ := HNO.out rfl
    clear HNO HYES CM
    go_wp2_with fail
    (obtain rfl : 0 = l := HM.out; refine bodyPost_ret (results_tmp2 rfl _ _ _) rfl ?_; exact (OwnZ.nil HB1.out).gives false)
  | true =>
  have HOR := Lib.hid ((oA_iff vs os).1 HGE.out)
  have HMM := Lib.hid (of_decide_eq_true HDE.out)
  obtain ⟨hz, rfl⟩ := HYES.out rfl
  have h26 : n2 ≤ 6 := by rw [← HO.out.len]; exact HOR.out.le6
  have hn6 : n ≤ 6 := by have hn2 : n = n2 := by rw [← HI.out.len, ← HO.out.len]; exact HOR.out.2.1.symm
                         omega
  have HR : Hid (∀ p, p < n2 → inA n (os.getD p 0)) := Lib.hid (fun p hp => by rw [← HI.out.len]; exact HOR.out.inn (by rw [HO.out.len]; exact hp))
  have HZ := Lib.hid hz
  clear HNO HYES CM HGE HDE hz
  have CT := Lib.hid (l8Times_any c c2 (HI.out.below HB1.out HI.out.low) hn6 (HO.out.below HB1.out HO.out.low) h26 hi m HMM.out HOR.out.1 HR.out)
  have hll : (timesL (lks vs m hi os)).length = n2 := by rw [timesL_len, lks_len HMM.out (fun p hp => HOR.out.good hp), HO.out.len]
  obtain rfl : n2 = l := by rw [← HM.out, HZ.out, hll]
  clear hll
  go_wp2_with fail
  refine CT.out.mono ?_
  rintro e w3 ⟨v, rfl, hO⟩
  have HOZ := Lib.hid (hO.base HB1.out)
  clear hO CT HB1
  go_wp2_with fail
  refine bodyPost_ret (results_tmp2 rfl _ _ _) rfl ?_
  rw [HZ.out]
  exact HOZ.out.gives true
set_option maxRecDepth 100000 in
set_option maxHeartbeats 2000000 in
theorem delayS_any {w : World} {B B2 : Nat} {A A2 : Option Addr} {n n2 : Nat} {vs : List TArrival} {os : List Int} (c c2 : Nat) (h : IsArrivals w B A n vs) (hm : n ≤ 1048576) (h2 : IsIs w B2 A2 n2 os) (hm2 : n2 ≤ 1048576) (hnc : n2 ≤ c2) (hi : Bool) (m : Int) (z : Int) (x : Bool) (hA : DelayA vs hi m os z x) :
    Calls Try.prog 21 #[.slice A n c, .bool hi, .int .i64 m, .slice A2 n2 c2] w fun e w' => e = .returned (.tuple #[.int .i64 z, .bool x]) ∧ Below w.heap.size w w' := by
  have CO := Lib.hid (l8Order_any c c2 h hm h2 hm2 hnc)
  have CM := Lib.hid (fun W => l8Minutes_any m W)
  have HI := Lib.hid h
  have HO := Lib.hid h2
  have HNO := Lib.hid hA.ways.2
  have HYES := Lib.hid hA.ways.1
  obtain ⟨G, hG⟩ : ∃ G, oA vs os = G := ⟨_, rfl⟩
  obtain ⟨D, hD⟩ : ∃ D, decide (1 ≤ m ∧ m ≤ 60) = D := ⟨_, rfl⟩
  rw [hG, hD] at HNO HYES
  rw [hG] at CO
  rw [hD] at CM
  have HGE := Lib.hid hG
  have HDE := Lib.hid hD
  clear h h2 hA hG hD
  go_enter Try.func21, Try.ntmps21
  go_wp2_with fail
  refine CO.out.mono ?_
  rintro e w1 ⟨rfl, hb⟩
  have HB1 := Lib.hid hb
  clear hb CO
  cases G with
  | false =>
    obtain ⟨rfl, rfl⟩ := HNO.out (.inl rfl)
    clear HNO HYES CM
    go_wp2_with fail
    (refine bodyPost_ret (results_tmp2 rfl _ _ _) rfl ?_; exact ⟨rfl, HB1.out⟩)
  | true =>
  replace HYES := Lib.hid (HYES.out rfl)
  replace HNO := Lib.hid (fun d => HNO.out (.inr d))
  go_wp2_with fail
  refine (CM.out _).mono ?_
  rintro e w2 ⟨rfl, rfl⟩
  cases D with
  | false =>
    obtain ⟨rfl, rfl⟩ := HNO.out rfl
    clear HNO HYES CM
    go_wp2_with fail
    (refine bodyPost_ret (results_tmp2 rfl _ _ _) rfl ?_; exact ⟨rfl, HB1.out⟩)
  | true =>
  have HOR := Lib.hid ((oA_iff vs os).1 HGE.out)
  have HMM := Lib.hid (of_decide_eq_true HDE.out)
  obtain ⟨hz, rfl⟩ := HYES.out rfl
  have h26 : n2 ≤ 6 := by rw [← HO.out.len]; exact HOR.out.le6
  have hn6 : n ≤ 6 := by have hn2 : n = n2 := by rw [← HI.out.len, ← HO.out.len]; exact HOR.out.2.1.symm
                         omega
  have HR : Hid (∀ p, p < n2 → inA n (os.getD p 0)) := Lib.hid (fun p hp => by rw [← HI.out.len]; exact HOR.out.inn (by rw [HO.out.len]; exact hp))
  have HZ := Lib.hid hz
  clear HNO HYES CM HGE HDE hz
  have CT := Lib.hid (l8Delay_any c c2 (HI.out.below HB1.out HI.out.low) hn6 (HO.out.below HB1.out HO.out.low) h26 hi m HMM.out HOR.out.1 HR.out)
  rw [← HZ.out] at CT
  go_wp2_with fail
  refine CT.out.mono ?_
  rintro e w3 ⟨rfl, hb⟩
  have HB3 := Lib.hid (HB1.out.trans (hb.mono HB1.out.size))
  clear hb CT HB1
  go_wp2_with fail
  refine bodyPost_ret (results_tmp2 rfl _ _ _) rfl ?_
  exact ⟨rfl, HB3.out⟩
end Go.Proofs.Ytdleidlmjliapaa
