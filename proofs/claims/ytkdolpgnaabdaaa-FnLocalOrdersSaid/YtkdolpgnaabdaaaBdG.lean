/- Chapter 9: local orders, of the model and of the program. -/
import Derived.Test.YtkdolpgnaabdaaaBdF
import Derived.Test.YtkdolpgnaabdaaaLkU
import Derived.ScopeJumps
namespace Go.Proofs.Ytkdolpgnaabdaaa
open Go.RowKit Go.PlainAid Go.Sort
set_option linter.unusedVariables false
set_option linter.unusedSimpArgs false

/-- One exchange more is looked at, also the last index, with which there is none. -/
theorem bsK_step {vs : List TArrival} {hi : Bool} {m : Int} {os : List Int} {k : Nat} {z : Int} {x : Bool} (hO : gO vs m os = true) (hA : GainA vs hi m os k z x) (hk : k < os.length) :
    bsK vs m hi os (min (k + 1) (os.length - 1)) = if (bsK vs m hi os (min k (os.length - 1))).2 < z then ((k : Int), z) else bsK vs m hi os (min k (os.length - 1)) := by
  by_cases hl : k + 1 < os.length
  · rw [show min (k + 1) (os.length - 1) = k + 1 by omega, show min k (os.length - 1) = k by omega, bsK, (gainA_in hA hO hl).1]
  · rw [show min (k + 1) (os.length - 1) = os.length - 1 by omega, show min k (os.length - 1) = os.length - 1 by omega, (gainA_no hA (gG_no (.inr (by omega)))).1, if_neg]
    have := (bsK_is vs m hi os (os.length - 1)).1
    omega
theorem gnA_bd {vs : List TArrival} {hi : Bool} {m : Int} {os : List Int} {k : Nat} (hm : 1 ≤ m ∧ m ≤ 60) (ho : OrdA vs os) : -600000 ≤ gnA vs m hi os k ∧ gnA vs m hi os k ≤ 600000 := by
  unfold gnA
  split
  · next e =>
    have h1 := dly_bd hi hm ho
    have h2 := dly_bd hi hm ((oA_iff _ _).1 e)
    omega
  · omega
set_option maxRecDepth 100000 in
set_option maxHeartbeats 4000000 in
theorem grt_any {w : World} {B B2 g2 : Nat} {A : Option Addr} {n n2 : Nat} {vs : List TArrival} {os : List Int} (c c2 : Nat) (h : IsArrivals w B A n vs) (hm : n ≤ 1048576) (h2 : IsIs w B2 (some ⟨g2, 0, none⟩) n2 os) (hm2 : n2 ≤ 1048576) (hnc : n2 ≤ c2) (hi : Bool) (m : Int) (hO : gO vs m os = true) :
    Calls Try.prog 60 #[.slice A n c, .bool hi, .int .i64 m, .slice (some ⟨g2, 0, none⟩) n2 c2] w fun e w' => e = .returned (.tuple #[.int .i64 (bsA vs m hi os).2, .int .i64 (bsA vs m hi os).1]) ∧ Below w.heap.size w w' := by
  have HI := Lib.hid h
  have HO := Lib.hid h2
  have HGO := Lib.hid hO
  have HZ : Hid (bsA vs m hi os = bsK vs m hi os (min n2 (n2 - 1))) := Lib.hid (by unfold bsA; rw [h2.len, show min n2 (n2 - 1) = n2 - 1 by omega])
  obtain ⟨b, hb⟩ : ∃ b, bsA vs m hi os = b := ⟨_, rfl⟩
  rw [hb] at HZ ⊢
  obtain ⟨b1, b2⟩ := b
  dsimp only
  clear h h2 hO hb
  go_enter Try.func60, Try.ntmps60
  go_wp2_with fail
  go_loopw [10, 11, 17] (fun z f i wr => ∃ (k : Nat) (p q : Int), bsK vs m hi os (min k (n2 - 1)) = (p, q) ∧ k ≤ n2 ∧ i = .int .i64 k ∧ z = .int .i64 q ∧ f = .int .i64 p ∧ Below w.heap.size w wr) (fun _ _ i _ => n2 - (intOf i).toNat)
  case atStart => exact ⟨0, 0, 0, by rw [show min 0 (n2 - 1) = 0 by omega]; rfl, Nat.zero_le _, rfl, rfl, rfl, Below.refl _ _⟩
  case round =>
    obtain ⟨k, p, q, hst, hk, rfl, rfl, rfl, hb⟩ := hrel
    have HST := Lib.hid hst
    have HB := Lib.hid hb
    clear hst
    by_cases hlt : k < n2
    · obtain ⟨z, x, hA⟩ := gainA_ex vs hi m os (k : Int)
      have C := Lib.hid (gainI_any c c2 (HI.out.below hb HI.out.low) hm (HO.out.below hb HO.out.low) hm2 hnc hi m (k : Int) z x hA)
      have hs := bsK_step HGO.out hA (by rw [HO.out.len]; exact hlt)
      rw [HO.out.len, HST.out] at hs
      have HS := Lib.hid hs
      have hk0 : (0 : Int) ≤ (k : Int) := by omega
      have hk1 : (k : Int) < (n2 : Int) := by omega
      clear hA hb hs
      go_wp2_with fail
      refine C.out.mono ?_
      rintro e w1 ⟨rfl, hb⟩
      have HB1 := Lib.hid (HB.out.trans (hb.mono HB.out.size))
      clear hb C HB
      by_cases hq : q < z
      · have HN : Hid (bsK vs m hi os (min (k + 1) (n2 - 1)) = ((k : Int), z)) := Lib.hid (by rw [HS.out]; exact if_pos hq)
        clear HS HST
        go_wp2_with fail
        go_roundw
        case rel => exact ⟨k + 1, _, _, HN.out, by omega, by go_num, rfl, rfl, HB1.out⟩
        case measure => simp [intOf]; omega
      · have HN : Hid (bsK vs m hi os (min (k + 1) (n2 - 1)) = (p, q)) := Lib.hid (by rw [HS.out]; exact if_neg hq)
        clear HS HST
        go_wp2_with fail
        go_roundw
        case rel => exact ⟨k + 1, _, _, HN.out, by omega, by go_num, rfl, rfl, HB1.out⟩
        case measure => simp [intOf]; omega
    · obtain rfl : k = n2 := by omega
      have he : (b1, b2) = (p, q) := by rw [HZ.out, HST.out]
      obtain ⟨rfl, rfl⟩ : b1 = p ∧ b2 = q := by simpa using he
      clear he HZ HST
      go_wp2_with fail
      refine bodyPost_ret (results_tmp2 rfl _ _ _) rfl ?_
      exact ⟨rfl, HB.out⟩
theorem LocA.yes {vs : List TArrival} {h : Bool} {m : Int} {L : List Int} {z : Int} (hA : LocA vs h m L z true) : L = locO vs m h (comeO vs) ∧ z = dly vs m h L := by
  obtain ⟨h1, h2, h3⟩ := hA
  rw [← h1, if_pos rfl] at h2 h3
  exact ⟨h2, by rw [h2]; exact h3⟩
theorem LocA.no {vs : List TArrival} {h : Bool} {m : Int} {L : List Int} {z : Int} (hA : LocA vs h m L z false) : L = [] ∧ z = 0 := by
  obtain ⟨h1, h2, h3⟩ := hA
  rw [← h1] at h2 h3
  exact ⟨h2, h3⟩
theorem LocA.len {vs : List TArrival} {h : Bool} {m : Int} {L : List Int} {z : Int} {x : Bool} (hA : LocA vs h m L z x) : L.length ≤ 6 := by
  cases x with
  | false => rw [hA.no.1]; simp
  | true => exact ((gO_iff _ _ _).1 (loc_yes hA).1).1.le6
theorem loc_len {vs : List TArrival} {m : Int} {h : Bool} (hm : 1 ≤ m ∧ m ≤ 60) {os : List Int} (ho : OrdA vs os) : (locO vs m h os).length = vs.length := (locO_is hm _ os ho rfl).1.2.1
theorem wp_scope_ghost {P : Program} {c rest : Code} {Q : Exit → Act → World → Prop} {a : Act} {w : World} (l : Nat) (I : Nat → Act → World → Prop) (hf : findLabel c l = some rest) (first : c.wp P (Exit.jump l (fun a w => ∃ n, I n a w) Q) a w)
    (pass : ∀ n a w, I n a w → rest.wp P (Exit.jump l (fun a' w' => ∃ n', n' < n ∧ I n' a' w') Q) a w) : (Code.scope c).wp P Q a w := by
  refine wp_scope_jumps l (fun a w => ∃ n, I n a w) (fun a w => leastOf (fun n => I n a w)) hf first ?_
  intro a w hI
  refine wp_mono (pass _ a w (leastOf_spec hI).1) ?_
  intro e a' w' hq
  cases e with
  | goto l' =>
    obtain ⟨rfl, n', hlt, h'⟩ := hq
    exact ⟨rfl, ⟨n', h'⟩, Nat.lt_of_le_of_lt ((leastOf_spec ⟨n', h'⟩).2 n' h') hlt⟩
  | _ => exact hq
theorem OwnZ.dropX {w w' : World} {L : List Int} {n : Nat} {v : Value} (h : OwnZ w w' L n v) : L.length = n := by
  obtain ⟨g, c, rfl, h1, h2, h3⟩ := h
  have := h2.1
  simpa using this
set_option maxRecDepth 100000 in
set_option maxHeartbeats 8000000 in
theorem locS_any {w : World} {B : Nat} {A : Option Addr} {n : Nat} {vs : List TArrival} (c : Nat) (h : IsArrivals w B A n vs) (hm : n ≤ 1048576) (hi : Bool) (m : Int) (L : List Int) (z : Int) (x : Bool) (hA : LocA vs hi m L z x) (l : Nat) (hl : L.length = l) :
    Calls Try.prog 30 #[.slice A n c, .bool hi, .int .i64 m] w (GivesZ3 w L l z x) := by
  have C := Lib.hid (asked_any c h hm m)
  have HI := Lib.hid h
  have HLL := Lib.hid hl
  obtain ⟨K, hK⟩ : ∃ K, gM vs m = K := ⟨_, rfl⟩
  obtain rfl : x = K := hA.1.trans hK
  rw [hK] at C
  have HK := Lib.hid hK
  have HA := Lib.hid hA
  clear h hK hA hl
  go_enter Try.func30, Try.ntmps30
  go_wp2_with fail
  refine C.out.mono ?_
  rintro e w1 ⟨rfl, hb⟩
  have HB1 := Lib.hid hb
  clear hb C
  cases x with
  | false =>
    obtain ⟨rfl, rfl⟩ := HA.out.no
    obtain rfl : 0 = l := HLL.out
    go_wp2_with fail
    (go_ret3; exact (OwnZ.nil HB1.out).gives3 0 false)
  | true =>
  have HGM := Lib.hid ((gM_iff vs m).1 HK.out)
  have hn6 : n ≤ 6 := by rw [← HI.out.len]; exact HGM.out.1.1
  have hcf := comeO_is HGM.out.1
  have hco := first_ord HGM.out.1 hcf
  have HCO := Lib.hid hco
  obtain ⟨hLe, hze⟩ := HA.out.yes
  obtain rfl : n = l := by rw [← HLL.out, hLe, loc_len HGM.out.2 hco, HI.out.len]
  have HLE := Lib.hid hLe
  have HZE := Lib.hid hze
  clear HK HA hco hLe hze HLL
  have CF := Lib.hid (l8FirstCome_any c (HI.out.below HB1.out HI.out.low) HGM.out.1)
  have HCE : Hid (∀ os, FirstA vs n os → os = comeO vs) := Lib.hid (fun os hos => first_one hos (by rw [HI.out.len] at hcf; exact hcf))
  clear hcf
  go_wp2_with fail
  refine CF.out.mono ?_
  rintro e w2 ⟨v, os, rfl, hos, hO⟩
  obtain rfl := HCE.out os hos
  have HO := Lib.hid (hO.base HB1.out)
  clear hO CF HCE hos HB1
  go_wp2_with fail
  go_loopg [9] (dly vs m hi (comeO vs)).toNat (fun gh v wr => ∃ os, gh = (dly vs m hi os).toNat ∧ OrdA vs os ∧ locO vs m hi os = L ∧ Hid (OwnZ w wr os n v))
  case atStart => exact ⟨comeO vs, rfl, HCO.out, HLE.out.symm, HO⟩
  case round =>
    clear HO HCO
    obtain ⟨os, rfl, ho, hlo, HZ⟩ := hrel
    have HLO := Lib.hid hlo
    have HOR := Lib.hid ho
    obtain ⟨g0, cp, rfl, hcp, hIs⟩ := HZ.out.full
    have HIS := Lib.hid hIs
    have HBA := Lib.hid (bsK_is vs m hi os (os.length - 1))
    have HIW := Lib.hid (HI.out.below HZ.out.low HI.out.low)
    have hlen := hIs.len
    obtain ⟨G0, hG0⟩ : ∃ G, (dly vs m hi os).toNat = G := ⟨_, rfl⟩
    clear ho hlo hIs
    go_wp2_with fail
    go_loopw [10, 11, 12] (fun b t i wi => ∃ (k : Nat) (p q : Int), bsK vs m hi os k = (p, q) ∧ k ≤ n - 1 ∧ i = .int .i64 k ∧ b = .int .i64 p ∧ t = .int .i64 q ∧ Below wr.heap.size wr wi) (fun _ _ i _ => n - (intOf i).toNat)
    case atStart => exact ⟨0, 0, 0, rfl, Nat.zero_le _, rfl, rfl, rfl, Below.refl _ _⟩
    case round =>
      obtain ⟨k, p, q, hst, hk, rfl, rfl, rfl, hb⟩ := hrel
      have HST := Lib.hid hst
      have HB := Lib.hid hb
      clear hst
      by_cases hlt : k + 1 < n
      · have C := Lib.hid (l9Gain_any c cp (HIW.out.below hb HIW.out.low) (HIS.out.below hb HIS.out.low) hcp hi m HGM.out.2 HOR.out k hlt)
        have HQ0 : Hid (0 ≤ q) := Lib.hid (by have := (bsK_is vs m hi os k).1; rw [HST.out] at this; exact this)
        have HS : Hid (bsK vs m hi os (k + 1) = if q < gnA vs m hi os k then ((k : Int), gnA vs m hi os k) else (p, q)) := Lib.hid (by rw [bsK, HST.out])
        have HN0 : Hid (oA vs (swp os k) = false → gnA vs m hi os k = 0) := Lib.hid (fun e => by unfold gnA; rw [e]; rfl)
        obtain ⟨G, hG⟩ : ∃ G, oA vs (swp os k) = G := ⟨_, rfl⟩
        obtain ⟨g, hg⟩ : ∃ g, gnA vs m hi os k = g := ⟨_, rfl⟩
        rw [hG, hg] at C HN0
        rw [hg] at HS
        have hk0 : (0 : Int) ≤ (k : Int) := by omega
        have hk1 : (k : Int) + 1 < (n : Int) := by omega
        clear hb hG hg
        go_wp2_with fail
        refine C.out.mono ?_
        rintro e w4 ⟨rfl, hb⟩
        have HB4 := Lib.hid (HB.out.trans (hb.mono HB.out.size))
        clear hb C HB
        by_cases hq : G = true ∧ q < g
        · obtain ⟨rfl, hq⟩ := hq
          have HN : Hid (bsK vs m hi os (k + 1) = ((k : Int), g)) := Lib.hid (by rw [HS.out, if_pos hq])
          clear HS HST
          go_wp2_with fail
          go_roundw
          case rel => exact ⟨k + 1, _, _, HN.out, by omega, by go_num, rfl, rfl, HB4.out⟩
          case measure => simp [intOf]; omega
        · have HN : Hid (bsK vs m hi os (k + 1) = (p, q)) := Lib.hid (by
            rw [HS.out, if_neg]
            intro h9
            cases G with
            | true => exact hq ⟨rfl, h9⟩
            | false => have h1 := HN0.out rfl; have := HQ0.out; omega)
          clear HS HST
          cases G with
          | true =>
            have hq2 : ¬ q < g := fun h9 => hq ⟨rfl, h9⟩
            clear hq
            go_wp2_with fail
            go_roundw
            case rel => exact ⟨k + 1, _, _, HN.out, by omega, by go_num, rfl, rfl, HB4.out⟩
            case measure => simp [intOf]; omega
          | false =>
            clear hq
            go_wp2_with fail
            go_roundw
            case rel => exact ⟨k + 1, _, _, HN.out, by omega, by go_num, rfl, rfl, HB4.out⟩
            case measure => simp [intOf]; omega
      · have hkn : ¬ (k : Int) + 1 < (n : Int) := by omega
        have hbs : bsA vs m hi os = (p, q) := by unfold bsA; rw [hlen, ← HST.out, show n - 1 = k by omega]
        have hq0 : 0 ≤ q := by have := (bsK_is vs m hi os k).1; rw [HST.out] at this; exact this
        have HBS := Lib.hid hbs
        clear hbs HST
        by_cases hz0 : q = 0
        · subst hz0
          have hend := locO_end (vs := vs) (m := m) (h := hi) (os := os) (by rw [HBS.out]; simp)
          have heq : os = L := hend.symm.trans HLO.out
          have HEQ := Lib.hid heq
          have HR : Hid (∀ p, p < n → inA n (os.getD p 0)) := Lib.hid (fun p hp => by rw [← HI.out.len]; exact HOR.out.inn (by rw [hlen]; exact hp))
          have CD := Lib.hid (l8Delay_any c cp (HIW.out.below hb HIW.out.low) hn6 (HIS.out.below hb HIS.out.low) hn6 hi m HGM.out.2 HGM.out.1 HR.out)
          have HD : Hid (delL vs (lks vs m hi os) = z) := Lib.hid (by rw [HZE.out, ← HEQ.out]; rfl)
          rw [HD.out] at CD
          clear hend heq hb
          go_wp2_with fail
          refine CD.out.mono ?_
          rintro e w5 ⟨rfl, hb⟩
          have HZ5 := Lib.hid (HZ.out.below (HB.out.trans (hb.mono HB.out.size)))
          clear hb CD HB
          go_wp2_with fail
          go_ret3
          rw [← HEQ.out]
          exact HZ5.out.gives3 z true
        · obtain ⟨j, hj1, hj2, hj3, hj4, hj5⟩ := bsA_next (vs := vs) (m := m) (h := hi) (os := os) HGM.out.2 HOR.out (by rw [HBS.out]; show 0 < q; omega)
          have hnx := locO_next (vs := vs) (m := m) (h := hi) (os := os) HGM.out.2 HOR.out (by rw [HBS.out]; show 0 < q; omega) hj2
          obtain rfl : p = (j : Int) := by rw [← hj2, HBS.out]
          have CS := Lib.hid (l9Swap_any cp (by omega) (HIS.out.below hb HIS.out.low) j (by omega))
          have HNX : Hid (locO vs m hi (swp os j) = L) := Lib.hid (hnx.trans HLO.out)
          have HO2 := Lib.hid hj3
          have HLT : Hid ((dly vs m hi (swp os j)).toNat < (dly vs m hi os).toNat) := Lib.hid (by omega)
          have hqe : (q == 0) = false := by simpa using hz0
          have HBZ := Lib.hid (HZ.out.low.trans (hb.mono HZ.out.low.size))
          clear hj1 hj2 hj3 hj4 hj5 hnx hb HBS
          go_wp2_with fail
          refine CS.out.mono ?_
          rintro e w5 ⟨v5, rfl, hO5⟩
          have HZ5 := Lib.hid (hO5.base HBZ.out)
          clear hO5 CS
          go_wp2_with fail
          go_roundg (dly vs m hi (swp os j)).toNat
          case measure => exact HLT.out
          case rel => exact ⟨swp os j, rfl, HO2.out, HNX.out, HZ5⟩
set_option maxRecDepth 100000 in
set_option maxHeartbeats 8000000 in
theorem locI_any {w : World} {B : Nat} {A : Option Addr} {n : Nat} {vs : List TArrival} (c : Nat) (h : IsArrivals w B A n vs) (hm : n ≤ 1048576) (hi : Bool) (m : Int) (L : List Int) (z : Int) (x : Bool) (hA : LocA vs hi m L z x) (l : Nat) (hl : L.length = l) :
    Calls Try.prog 29 #[.slice A n c, .bool hi, .int .i64 m] w (GivesZ3 w L l z x) := by
  have C : Hid (Calls Try.prog 47 #[.slice A n c, .int .i64 m] w fun e w' => e = .returned (.bool (gM vs m)) ∧ Below w.heap.size w w') := Lib.hid (canLock_any c h hm m)
  have HI := Lib.hid h
  have HLL := Lib.hid hl
  obtain ⟨K, hK⟩ : ∃ K, gM vs m = K := ⟨_, rfl⟩
  obtain rfl : x = K := hA.1.trans hK
  rw [hK] at C
  have HK := Lib.hid hK
  have HA := Lib.hid hA
  clear h hK hA hl
  cases x with
  | false =>
    go_enter Try.func29, Try.ntmps29
    go_wp2_with fail
    go_step3
    go_wp2_with fail
    refine C.out.mono ?_
    rintro e w1 ⟨rfl, hb⟩
    have HB1 := Lib.hid hb
    clear hb C
    obtain ⟨rfl, rfl⟩ := HA.out.no
    obtain rfl : 0 = l := HLL.out
    go_wp2_with fail
    rw [Exit.noGoto_ret]
    go_ret3
    exact (OwnZ.nil HB1.out).gives3 0 false
  | true =>
  have HGM := Lib.hid ((gM_iff vs m).1 HK.out)
  have hn6 : n ≤ 6 := by rw [← HI.out.len]; exact HGM.out.1.1
  have hcf := comeO_is HGM.out.1
  have hco := first_ord HGM.out.1 hcf
  have HCO := Lib.hid hco
  obtain ⟨hLe, hze⟩ := HA.out.yes
  obtain rfl : n = l := by rw [← HLL.out, hLe, loc_len HGM.out.2 hco, HI.out.len]
  have HLE := Lib.hid hLe
  have HZE := Lib.hid hze
  have hcA := comeA_comeO vs
  rw [gAs_yes HGM.out.1] at hcA
  have HCA := Lib.hid hcA
  have HCL : Hid ((comeO vs).length = n) := Lib.hid (by rw [hcf.len, HI.out.len])
  clear HK HA hco hLe hze HLL hcA hcf
  go_enter Try.func29, Try.ntmps29
  go_wp2_with fail
  refine wp_scope_ghost 0 (fun (gh : Nat) (a' : Act) (w' : World) => ∃ (os : List Int) (v : Value) (u10 u11 u12 u13 u14 u15 u16 u17 u18 u19 u20 u21 u22 u23 u24 u25 u26 u27 u28 u29 u30 u31 u32 u33 u34 u35 u36 u37 u38 u39 u40 u41 u42 u43 u44 u45 u46 u47 : Value), a' = { tmps := #[.slice A n c, .bool hi, .int .i64 m, undef, undef, undef, .slice none 0 0, .int .i64 0, .bool false, v, u10, u11, u12, u13, u14, u15, u16, u17, u18, u19, u20, u21, u22, u23, u24, u25, u26, u27, u28, u29, u30, u31, u32, u33, u34, u35, u36, u37, u38, u39, u40, u41, u42, u43, u44, u45, u46, u47], defers := [] } ∧ gh = (dly vs m hi os).toNat ∧ OrdA vs os ∧ locO vs m hi os = L ∧ Hid (OwnZ w w' os n v)) rfl ?_ ?_
  · go_wp2_with fail
    refine C.out.mono ?_
    rintro e w1 ⟨rfl, hb⟩
    have HB1 := Lib.hid hb
    clear hb C
    have CF := Lib.hid (comeI_any c (HI.out.below HB1.out HI.out.low) hm _ true HCA.out n HCL.out)
    go_wp2_with fail
    refine CF.out.mono ?_
    rintro e w2 ⟨g0, cp, rfl, hown, hb⟩
    have hz0 : OwnZ w1 w2 (comeO vs) n (.slice (some ⟨g0, 0, none⟩) n cp) := ⟨g0, cp, rfl, (hown.lt g0 rfl).1, hown, hb⟩
    have HZ := Lib.hid (hz0.base HB1.out)
    clear hz0 hown hb CF HB1
    go_wp2_with fail
    go_step3
    obtain ⟨os, hos⟩ : ∃ os, comeO vs = os := ⟨_, rfl⟩
    rw [hos] at HZ HCO HLE HCL
    clear hos
    have HLO : Hid (locO vs m hi os = L) := Lib.hid HLE.out.symm
    have HOR := HCO
    obtain ⟨g0, cp, e, hcp, hIs⟩ := HZ.out.full
    injection e with e1 e2 e3
    injection e1 with e1
    injection e1 with e1
    subst e1
    subst e3
    have HIS := Lib.hid hIs
    clear hIs e2 HCO
    have CG := Lib.hid (grt_any c cp (HI.out.below HZ.out.low HI.out.low) hm HIS.out (by omega) hcp hi m ((gO_iff _ _ _).2 ⟨HOR.out, HGM.out.2⟩))
    have HAL := Lib.hid (HZ.out.low)
    obtain ⟨b, hbs⟩ : ∃ b, bsA vs m hi os = b := ⟨_, rfl⟩
    rw [hbs] at CG
    have HBS := Lib.hid hbs
    obtain ⟨p, q⟩ := b
    dsimp only at CG
    clear hbs
    go_wp2_with fail
    refine CG.out.mono ?_
    rintro e w5 ⟨rfl, hb⟩
    have HB := Lib.hid hb
    have HBZ := Lib.hid (HAL.out.trans (hb.mono HAL.out.size))
    clear hb CG
    by_cases hq : 0 < q
    · obtain ⟨j, hj1, hj2, hj3, hj4, hj5⟩ := bsA_next (vs := vs) (m := m) (h := hi) (os := os) HGM.out.2 HOR.out (by rw [HBS.out]; exact hq)
      have hnx := locO_next (vs := vs) (m := m) (h := hi) (os := os) HGM.out.2 HOR.out (by rw [HBS.out]; exact hq) hj2
      obtain rfl : p = (j : Int) := by rw [← hj2, HBS.out]
      have CS := Lib.hid (exch_any cp (by omega) (HIS.out.below HB.out HIS.out.low) j (by have := HIS.out.len; omega))
      have HNX : Hid (locO vs m hi (swp os j) = L) := Lib.hid (hnx.trans HLO.out)
      have HO2 := Lib.hid hj3
      have HLT : Hid ((dly vs m hi (swp os j)).toNat < (dly vs m hi os).toNat) := Lib.hid (by omega)
      clear hj1 hj2 hj3 hj4 hj5 hnx HBS HB
      go_wp2_with fail
      refine CS.out.mono ?_
      rintro e w6 ⟨v6, rfl, hO6⟩
      have HZ6 := Lib.hid (hO6.base HBZ.out)
      clear hO6 CS
      go_wp2_with fail
      go_step3
      exact ⟨rfl, _, swp os j, _, _, _, _, _, _, _, _, _, _, _, _, _, _, _, _, _, _, _, _, _, _, _, _, _, _, _, _, _, _, _, _, _, _, _, _, _, _, _, rfl, rfl, HO2.out, HNX.out, HZ6⟩
    · have hend := locO_end (vs := vs) (m := m) (h := hi) (os := os) (by rw [HBS.out]; exact hq)
      have heq : os = L := hend.symm.trans HLO.out
      have HEQ := Lib.hid heq
      have CD := Lib.hid (delayI_any c cp (HI.out.below HBZ.out HI.out.low) hm (HIS.out.below HB.out HIS.out.low) (by omega) hcp hi m _ _ (delayA_of vs hi m os))
      have HD : Hid ((if gO vs m os = true then dly vs m hi os else 0) = z) := Lib.hid (by rw [if_pos ((gO_iff _ _ _).2 ⟨HOR.out, HGM.out.2⟩), HZE.out, ← HEQ.out])
      rw [HD.out] at CD
      clear hend heq
      go_wp2_with fail
      refine CD.out.mono ?_
      rintro e w6 ⟨rfl, hb⟩
      have HZ6 := Lib.hid (HZ.out.below (HB.out.trans (hb.mono HB.out.size)))
      clear hb CD HB
      go_wp2_with fail
      simp only [Exit.jump]
      go_ret3
      rw [← HEQ.out]
      exact HZ6.out.gives3 z true
  · rintro gh a' w2 ⟨os, v, u10, u11, u12, u13, u14, u15, u16, u17, u18, u19, u20, u21, u22, u23, u24, u25, u26, u27, u28, u29, u30, u31, u32, u33, u34, u35, u36, u37, u38, u39, u40, u41, u42, u43, u44, u45, u46, u47, rfl, rfl, ho, hlo, HZ⟩
    have HLO := Lib.hid hlo
    have HOR := Lib.hid ho
    obtain ⟨g0, cp, rfl, hcp, hIs⟩ := HZ.out.full
    have HIS := Lib.hid hIs
    clear hIs ho hlo HCO HCA HCL HLE C
    have CG := Lib.hid (grt_any c cp (HI.out.below HZ.out.low HI.out.low) hm HIS.out (by omega) hcp hi m ((gO_iff _ _ _).2 ⟨HOR.out, HGM.out.2⟩))
    have HAL := Lib.hid (HZ.out.low)
    obtain ⟨b, hbs⟩ : ∃ b, bsA vs m hi os = b := ⟨_, rfl⟩
    rw [hbs] at CG
    have HBS := Lib.hid hbs
    obtain ⟨p, q⟩ := b
    dsimp only at CG
    clear hbs
    go_wp2_with fail
    refine CG.out.mono ?_
    rintro e w5 ⟨rfl, hb⟩
    have HB := Lib.hid hb
    have HBZ := Lib.hid (HAL.out.trans (hb.mono HAL.out.size))
    clear hb CG
    by_cases hq : 0 < q
    · obtain ⟨j, hj1, hj2, hj3, hj4, hj5⟩ := bsA_next (vs := vs) (m := m) (h := hi) (os := os) HGM.out.2 HOR.out (by rw [HBS.out]; exact hq)
      have hnx := locO_next (vs := vs) (m := m) (h := hi) (os := os) HGM.out.2 HOR.out (by rw [HBS.out]; exact hq) hj2
      obtain rfl : p = (j : Int) := by rw [← hj2, HBS.out]
      have CS := Lib.hid (exch_any cp (by omega) (HIS.out.below HB.out HIS.out.low) j (by have := HIS.out.len; omega))
      have HNX : Hid (locO vs m hi (swp os j) = L) := Lib.hid (hnx.trans HLO.out)
      have HO2 := Lib.hid hj3
      have HLT : Hid ((dly vs m hi (swp os j)).toNat < (dly vs m hi os).toNat) := Lib.hid (by omega)
      clear hj1 hj2 hj3 hj4 hj5 hnx HBS HB
      go_wp2_with fail
      refine CS.out.mono ?_
      rintro e w6 ⟨v6, rfl, hO6⟩
      have HZ6 := Lib.hid (hO6.base HBZ.out)
      clear hO6 CS
      go_wp2_with fail
      go_step3
      exact ⟨rfl, _, HLT.out, swp os j, _, _, _, _, _, _, _, _, _, _, _, _, _, _, _, _, _, _, _, _, _, _, _, _, _, _, _, _, _, _, _, _, _, _, _, _, _, _, _, rfl, rfl, HO2.out, HNX.out, HZ6⟩
    · have hend := locO_end (vs := vs) (m := m) (h := hi) (os := os) (by rw [HBS.out]; exact hq)
      have heq : os = L := hend.symm.trans HLO.out
      have HEQ := Lib.hid heq
      have CD := Lib.hid (delayI_any c cp (HI.out.below HBZ.out HI.out.low) hm (HIS.out.below HB.out HIS.out.low) (by omega) hcp hi m _ _ (delayA_of vs hi m os))
      have HD : Hid ((if gO vs m os = true then dly vs m hi os else 0) = z) := Lib.hid (by rw [if_pos ((gO_iff _ _ _).2 ⟨HOR.out, HGM.out.2⟩), HZE.out, ← HEQ.out])
      rw [HD.out] at CD
      clear hend heq
      go_wp2_with fail
      refine CD.out.mono ?_
      rintro e w6 ⟨rfl, hb⟩
      have HZ6 := Lib.hid (HZ.out.below (HB.out.trans (hb.mono HB.out.size)))
      clear hb CD HB
      go_wp2_with fail
      simp only [Exit.jump]
      go_ret3
      rw [← HEQ.out]
      exact HZ6.out.gives3 z true
end Go.Proofs.Ytkdolpgnaabdaaa
