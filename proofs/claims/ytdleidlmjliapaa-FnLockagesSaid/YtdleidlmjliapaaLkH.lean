/- Chapter 8, the program: LockageTimes, LockageDelay, EmptyTurns, LastLockage. -/
import Derived.Test.YtdleidlmjliapaaLkG
namespace Go.Proofs.Ytdleidlmjliapaa
open Go.RowKit Go.PlainAid Go.Sort
set_option linter.unusedVariables false
set_option linter.unusedSimpArgs false

theorem lkA_each {vs : List TArrival} {h : Bool} {m : Int} {os : List Int} {L : List Tlockage} {x : Bool} (hA : LkA vs h m os L x) {j : Nat} (hj : j < L.length) : LkO vs os L j := by
  cases e : gO vs m os with
  | true =>
    have h1 := (gO_iff vs m os).1 e
    have hl := lks_len (h := h) h1.2 (fun p hp => h1.1.good hp)
    rw [(hA.1 e).1] at hj ⊢
    exact lks_each h1.1.1 h1.2 h1.1.le6 (fun p hp => h1.1.inn hp) (by omega)
  | false => rw [(hA.2 e).1] at hj; exact absurd hj (by simp)
theorem lkA_mm {vs : List TArrival} {h : Bool} {m : Int} {os : List Int} {L : List Tlockage} {x : Bool} (hA : LkA vs h m os L x) (hne : 0 < L.length) : 1 ≤ m ∧ m ≤ 60 := by
  cases e : gO vs m os with
  | true => exact ((gO_iff vs m os).1 e).2
  | false => rw [(hA.2 e).1] at hne; exact absurd hne (by simp)
theorem lkA_n {vs : List TArrival} {h : Bool} {m : Int} {os : List Int} {L : List Tlockage} {x : Bool} (hA : LkA vs h m os L x) {j : Nat} (hj : j < L.length) : 0 ≤ (atA vs (os.getD j 0)).x2 := by
  have h1 := lkA_each hA hj
  rw [← h1.i]
  exact h1.g.2.1.1
set_option maxRecDepth 100000 in
set_option maxHeartbeats 4000000 in
theorem timesI_any {w : World} {B B2 : Nat} {A A2 : Option Addr} {n n2 : Nat} {vs : List TArrival} {os : List Int} (c c2 : Nat) (h : IsArrivals w B A n vs) (hm : n ≤ 1048576) (h2 : IsIs w B2 A2 n2 os) (hm2 : n2 ≤ 1048576) (hnc : n2 ≤ c2) (hi : Bool) (m : Int) (T : List Int) (x : Bool) (hA : TimesA vs hi m os T x) (t : Nat) (ht : T.length = t) :
    Calls Try.prog 25 #[.slice A n c, .bool hi, .int .i64 m, .slice A2 n2 c2] w (GivesZ w T t x) := by
  obtain ⟨L, hL, rfl⟩ := hA
  have HI := Lib.hid h
  have HE := Lib.hid (fun j (hj : j < L.length) => lkA_each hL hj)
  have HE0 := Lib.hid (fun j (hj : j < L.length) => lkA_n hL hj)
  have CT := Lib.hid (lockagesOf_any c c2 h hm h2 hm2 hnc hi m L x hL)
  have HL6 := Lib.hid (lkA_len hL)
  obtain ⟨l, hl9⟩ : ∃ l, L.length = l := ⟨_, rfl⟩
  rw [hl9] at CT HE HL6 HE0
  have HLL := Lib.hid hl9
  have hl6 := HL6.out
  obtain rfl : l = t := by rw [← ht, timesL_len, hl9]
  obtain ⟨i0, hi, hz0, hz1, hz2⟩ := info_parts Try.infoInt'
  clear h h2 hL hl9 ht
  go_enter Try.func25, Try.ntmps25
  go_wp2_with fail
  refine CT.out.mono ?_
  rintro e w1 ⟨v, rfl, hO⟩
  obtain ⟨g9, c9, rfl, hL9⟩ := hO.is
  have HL9 := Lib.hid hL9
  have HB1 := Lib.hid hO.low
  clear hO CT hL9
  have P1 : Hid (OwnZ w1 (w1.alloc (.cells #[] 3)) (timesL (L.take 0)) 0 (.slice (some ⟨w1.heap.size, 0, none⟩) 0 0)) := Lib.hid (OwnZ.nil (Below.refl _ _))
  go_wp2_with fail
  go_loopw [12, 26] (fun v i wr => ∃ k : Nat, k ≤ l ∧ i = .int .i64 k ∧ OwnZ w1 wr (timesL (L.take k)) k v) (fun _ i _ => l - (intOf i).toNat)
  case atStart => exact ⟨0, Nat.zero_le _, rfl, P1.out⟩
  case round =>
    clear P1
    obtain ⟨k, hk, rfl, hO⟩ := hrel
    have hb := hO.low
    by_cases hlt : k < l
    · skip
      obtain ⟨a3, ea3, -, HV⟩ := (HL9.out.below hb (Nat.le_refl _)).has.lockage (k := k) (by rw [HLL.out]; exact hlt)
      injection ea3 with ea3
      subst ea3
      have hE := HE.out k hlt
      have hE0 := HE0.out k hlt
      have hxi := hE.inn
      have hxb := hE.b
      have hxw := hE.w
      have hxg := hE.g
      have HSN := Lib.hid (timesL_snoc (L := L) (k := k) (by rw [HLL.out]; exact hlt))
      generalize L.getD k nolockage = V at HV hxb HSN
      obtain ⟨i, tu, b, q⟩ := V
      obtain ⟨p0, p1, p2, p3⟩ := HV
      dsimp only at p0 p1 p2 p3
      have r0 := p0
      have r1 := p1
      have r2 := p2
      have r3 := p3
      simp only [addO, Nat.zero_add] at r0 r1 r2 r3
      have hk0 : (0 : Int) ≤ (k : Int) := by omega
      have hk1 : (k : Int) < (l : Int) := by omega
      have HSN' : Hid ((timesL (L.take (k + 1))).map (Value.int .i64) = (timesL (L.take k)).map (.int .i64) ++ [.int .i64 b]) := Lib.hid (by rw [HSN.out]; simp)
      clear hb
      obtain ⟨g0, cp, rfl, hg0, hown, hb⟩ := hO
      have hlx : g0 < wr.heap.size := (hown.lt g0 rfl).2
      have HCELL := Lib.hid (by
        have h := cell_one_new (wr.alloc (.cells #[.int .i64 i, .bool tu, .int .i64 b, .int .i64 q] 87)) (.int .i64 b) 3
        rwa [World.size_alloc] at h)
      clear hE hE0 hxi hxb hxw hxg HSN
      go_wp2_with (at_builtin; refine wpList_append_own _ rfl (.tmp 30) (.tmp 33) 46 rfl w1.heap.size 3 i0 (.int .i64 0) 1 8 Try.underlying46 hi hz0 hz1 hz2 rfl (by decide) (.slice (some ⟨g0, 0, none⟩) (k) cp) (k) _ rfl ((hown.alloc _).alloc _) ⟨wr.heap.size + 1, 0, none⟩ 1 1 [.int .i64 b] rfl rfl (HCELL.out) (by simp [Value.oneCell']) (by unfold maxLen; omega) (by omega) (by have := (hb).size; simp; omega) ?_; intro v1 w1 hown1 hgrow1 hnil1; obtain ⟨g1, c1, rfl, hg1⟩ := own_some hown1 (fun e => nomatch (hnil1.1 e).1); have hb1 := (((hb.alloc hb.size (.cells #[.int .i64 i, .bool tu, .int .i64 b, .int .i64 q] 87)).alloc (by have := hb.size; simp; omega) (.cells #[.int .i64 b] 3))).grown hgrow1 (by have := (hb).size; simp; omega) (fun q hq => by cases hq; assumption); clear hnil1 hgrow1 hown hb)
      go_roundw
      case rel => exact ⟨k + 1, by omega, by go_num, g1, c1, rfl, hg1, by rw [HSN'.out]; exact hown1, hb1⟩
      case measure => simp [intOf]; omega
    · obtain rfl : k = l := by omega
      have hend : L.take k = L := List.take_of_length_le (by rw [HLL.out]; exact Nat.le_refl _)
      rw [hend] at hO
      have HOB := Lib.hid (hO.base HB1.out)
      clear hend hO hb
      go_wp2_with fail
      refine bodyPost_ret (results_tmp2 rfl _ _ _) rfl ?_
      exact HOB.out.gives x
set_option maxRecDepth 100000 in
set_option maxHeartbeats 4000000 in
theorem delayI_any {w : World} {B B2 : Nat} {A A2 : Option Addr} {n n2 : Nat} {vs : List TArrival} {os : List Int} (c c2 : Nat) (h : IsArrivals w B A n vs) (hm : n ≤ 1048576) (h2 : IsIs w B2 A2 n2 os) (hm2 : n2 ≤ 1048576) (hnc : n2 ≤ c2) (hi : Bool) (m : Int) (z : Int) (x : Bool) (hA : DelayA vs hi m os z x) :
    Calls Try.prog 20 #[.slice A n c, .bool hi, .int .i64 m, .slice A2 n2 c2] w fun e w' => e = .returned (.tuple #[.int .i64 z, .bool x]) ∧ Below w.heap.size w w' := by
  obtain ⟨L, hL, rfl⟩ := hA
  have HI := Lib.hid h
  have HE := Lib.hid (fun j (hj : j < L.length) => lkA_each hL hj)
  have HE0 := Lib.hid (fun j (hj : j < L.length) => lkA_n hL hj)
  have CT := Lib.hid (lockagesOf_any c c2 h hm h2 hm2 hnc hi m L x hL)
  have HL6 := Lib.hid (lkA_len hL)
  obtain ⟨l, hl9⟩ : ∃ l, L.length = l := ⟨_, rfl⟩
  rw [hl9] at CT HE HL6 HE0
  have HLL := Lib.hid hl9
  have hl6 := HL6.out
  have HW := Lib.hid (fun j (hj : j < L.length) => wgt_bd (HE.out j (by omega)) (HE0.out j (by omega)))
  have HBD := Lib.hid (fun k (hk : k ≤ L.length) => delL_bd HW.out k hk)
  clear h h2 hL hl9
  go_enter Try.func20, Try.ntmps20
  go_wp2_with fail
  refine CT.out.mono ?_
  rintro e w1 ⟨v, rfl, hO⟩
  obtain ⟨g9, c9, rfl, hL9⟩ := hO.is
  have HL9 := Lib.hid hL9
  have HB1 := Lib.hid hO.low
  clear hO CT hL9
  go_wp2_with fail
  go_loopw [12, 25] (fun z i wr => ∃ k : Nat, k ≤ l ∧ i = .int .i64 k ∧ z = .int .i64 (delL vs (L.take k)) ∧ Below w1.heap.size w1 wr) (fun _ i _ => l - (intOf i).toNat)
  case atStart => exact ⟨0, Nat.zero_le _, rfl, rfl, Below.refl _ _⟩
  case round =>
    obtain ⟨k, hk, rfl, rfl, hb⟩ := hrel
    have hbw := HB1.out.trans (hb.mono HB1.out.size)
    by_cases hlt : k < l
    · skip
      obtain ⟨a3, ea3, -, HV⟩ := (HL9.out.below hb (Nat.le_refl _)).has.lockage (k := k) (by rw [HLL.out]; exact hlt)
      injection ea3 with ea3
      subst ea3
      have hE := HE.out k hlt
      have hE0 := HE0.out k hlt
      have hxi := hE.inn
      have hxb := hE.b
      have hxw := hE.w
      have hxg := hE.g
      have hbd := HBD.out k (by have := HLL.out; omega)
      have hwb := HW.out k (by have := HLL.out; omega)
      have hsn := delL_snoc (vs := vs) (L := L) (k := k) (by rw [HLL.out]; exact hlt)
      rw [wgt] at hsn hwb
      rw [hxw.1] at hsn hwb
      rw [← hxw.1] at hsn hwb
      have hxq : 0 ≤ (L.getD k nolockage).x3 ∧ (L.getD k nolockage).x3 ≤ 10719 := ⟨hxw.2, by have := hxw.1; omega⟩
      generalize L.getD k nolockage = V at HV hxi hxg hsn hwb hxq
      obtain ⟨i, tu, b, q⟩ := V
      dsimp only at hxi hxg hsn hwb hxq
      obtain ⟨j, rfl, hjn⟩ := inA_nat hxi
      rw [HI.out.len] at hjn
      rw [atA_cast] at hxg hsn hwb
      obtain ⟨a1, rfl, -, HU⟩ := (HI.out.below hbw HI.out.low).has.Arrival (k := j) (by rw [HI.out.len]; exact hjn)
      have f3 := HU.c3
      have hg3 := hxg.2.2
      generalize (vs.getD j noArrival).x3 = g at f3 hg3 hsn hwb
      obtain ⟨p0, p1, p2, p3⟩ := HV
      dsimp only at p0 p1 p2 p3
      have r0 := p0
      have r1 := p1
      have r2 := p2
      have r3 := p3
      simp only [addO, Nat.zero_add] at r0 r1 r2 r3
      have hk0 : (0 : Int) ≤ (k : Int) := by omega
      have hk1 : (k : Int) < (l : Int) := by omega
      have HSN := Lib.hid hsn
      obtain ⟨s0, hs0⟩ : ∃ s, delL vs (L.take k) = s := ⟨_, rfl⟩
      rw [hs0] at hbd HSN ⊢
      have hj0 : (0 : Int) ≤ (j : Int) := by omega
      have hj1 : (j : Int) < (n : Int) := by omega
      have hs1 : s0 ≤ 600000 := by omega
      have HBK := Lib.hid hb
      clear hs0 hsn hE hE0 hb hbw hxw hxi hxg HU HW HBD hxb
      go_wp2_with fail
      obtain ⟨W5, hW5⟩ : ∃ W, World.alloc wr (.cells #[.int .i64 (j : Int), .bool tu, .int .i64 b, .int .i64 q] 87) = W := ⟨_, rfl⟩
      obtain ⟨xb, hxb⟩ : ∃ x, (wr : World).heap.size = x := ⟨_, rfl⟩
      have cx0 : W5.cell? ⟨xb, 0, none⟩ = some (.int .i64 (j : Int)) := by rw [← hW5, ← hxb, sNew]; rfl
      have cx3 : W5.cell? ⟨xb, 3, none⟩ = some (.int .i64 q) := by rw [← hW5, ← hxb, sNew]; rfl
      have hb5 : Below wr.heap.size wr W5 := by rw [← hW5]; exact below1 _ _
      have f4 := (hb5.cell (World.block_lt_of_cell? _ _ f3)).trans f3
      have HB5 := Lib.hid (HBK.out.trans (hb5.mono HBK.out.size))
      (try rw [hW5]); (try rw [hxb])
      clear hW5 hxb hb5 p0 p1 p2 p3 r0 r1 r2 r3 f3 HBK
      have E0 := fun (d : Nat) (os : Array Obj) => cell_regrown cx0 d os
      have E3 := fun (d : Nat) (os : Array Obj) => cell_regrown cx3 d os
      have F4 := fun (d : Nat) (os : Array Obj) => cell_regrown f4 d os
      clear cx0 cx3 f4
      refine wp_region_quiet_below (by kernel_rfl) (by kernel_rfl) ?_
      repeat (go_big_quiet_step (fail))
      refine wpQuiet_nil ?_
      intro _ hw'
      obtain ⟨⟨dq, osq⟩, hw''⟩ := hw'
      subst hw''
      have HB6 := Lib.hid (HB5.out.trans ((below_regrown W5 dq osq).mono HB5.out.size))
      clear E0 E3 F4
      go_wp2_with fail
      go_roundw
      case rel => exact ⟨k + 1, by omega, by go_num, by rw [HSN.out], HB6.out⟩
      case measure => simp [intOf]; omega
    · obtain rfl : k = l := by omega
      have hend : L.take k = L := List.take_of_length_le (by rw [HLL.out]; exact Nat.le_refl _)
      rw [hend]
      clear hend
      go_wp2_with fail
      refine bodyPost_ret (results_tmp2 rfl _ _ _) rfl ?_
      exact ⟨rfl, hbw⟩
end Go.Proofs.Ytdleidlmjliapaa
