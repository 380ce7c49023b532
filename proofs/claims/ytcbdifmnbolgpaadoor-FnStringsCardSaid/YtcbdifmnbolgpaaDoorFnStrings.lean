/- What is proved: laws.FnStrings, called with any bytes, returns true and leaves them as they were: for what the bytes draw, FormatInt and ParseInt are inverse, AppendChecksum and VerifyChecksum are inverse, and a checksummed string with one changed byte is not accepted. Condition: the library's tables and errors start as their text lays them (the card ties them to it). -/
import Derived.Test.YtcbdifmnbolgpaaDoorST
import Derived.Test.YtcbdifmnbolgpaaDoorDetect
import Derived.Test.YtcbdifmnbolgpaaDoorCards
import Derived.Test.YtcbdifmnbolgpaaDoorTie
import Derived.StillTailTactics
import Derived.OpenShut
import Derived.ShutString
import Derived.ChangeOld
import Derived.LaidMore
import Derived.Lay
import Derived.SevenTiedAt
import Derived.Stop.Joined
namespace Go.Proofs.YtcbdifmnbolgpaaDoor.fnStrings
open Go.ChangeShapes Go.WideShapes Go.ChangeAt Go.RowKit
open Go.ChangeMaps (open_string shut_string)
set_option linter.unusedVariables false

set_option maxHeartbeats 400000 in
theorem big_no (a : Option Addr) (n c : Nat) (w : World) (h : n ≤ 65536) : Calls Tryd.prog 8 #[.slice a n c] w fun e w' => e = .returned (.bool false) ∧ w = w' := by
  have hd : decide ((65536 : Int) < (n : Int)) = false := by simp; omega
  go_enter Tryd.func8, Tryd.ntmps8
  go_wp2
  go_ret
  exact ⟨rfl, rfl⟩
set_option maxHeartbeats 400000 in
theorem big_yes (a : Option Addr) (n c : Nat) (w : World) (h : 65536 < n) (hm : n ≤ maxLen) : Calls Tryd.prog 8 #[.slice a n c] w fun e w' => e = .returned (.bool true) ∧ w = w' := by
  unfold maxLen at hm
  have hd : decide ((65536 : Int) < (n : Int)) = true := by simp; omega
  go_enter Tryd.func8, Tryd.ntmps8
  go_wp2
  go_ret
  exact ⟨rfl, rfl⟩
theorem fmt_two (n : Int) : ∃ (F : ByteArray) (fb : Bool), (fb = true → F = numB n ∧ -999999 ≤ n ∧ n ≤ 999999) ∧ F.size ≤ 32 ∧
    (∀ W, Tab W → Calls Tryd.prog 10 #[.int .i64 n] W fun e w' => e = .returned (.tuple #[.string F, .bool fb]) ∧ Below W.heap.size W w') ∧
    (∀ W : World, Calls Tryd.prog 11 #[.int .i64 n] W fun e w' => e = .returned (.tuple #[.string F, .bool fb]) ∧ Below W.heap.size W w') := by
  by_cases h : -999999 ≤ n ∧ n ≤ 999999
  · exact ⟨numB n, true, fun _ => ⟨rfl, h⟩, by have := numB_size n (by omega) (by omega); omega, fun W t => implFmt_ok n W h.1 h.2 t, fun W => (specFmt_ok n W h.1 h.2).mono fun e w' ⟨a, hD⟩ => ⟨a, hD.below _⟩⟩
  · have h2 : n < -999999 ∨ 999999 < n := by omega
    exact ⟨⟨#[]⟩, false, (fun h => nomatch h), by decide, fun W t => (implFmt_no n W h2).mono fun e w' ⟨a, b⟩ => ⟨a, b ▸ Below.refl _ _⟩, fun W => (specFmt_no n W h2).mono fun e w' ⟨a, b⟩ => ⟨a, b ▸ Below.refl _ _⟩⟩
theorem parse_two (s : ByteArray) (hs : s.size ≤ 1048576) : ∃ (v : Int) (b : Bool), (∀ n : Int, -999999 ≤ n → n ≤ 999999 → numB n = s → v = n ∧ b = true) ∧
    (∀ W, Tab W → Errs W → Calls Tryd.prog 13 #[.string s] W fun e w' => e = .returned (.tuple #[.int .i64 v, .bool b]) ∧ Below W.heap.size W w') ∧
    (∀ W : World, Calls Tryd.prog 14 #[.string s] W fun e w' => e = .returned (.tuple #[.int .i64 v, .bool b]) ∧ Below W.heap.size W w') := by
  by_cases h : ∃ n : Int, (-999999 ≤ n ∧ n ≤ 999999) ∧ numB n = s
  · obtain ⟨n, ⟨h0, h1⟩, he⟩ := h
    refine ⟨n, true, fun m m0 m1 me => ⟨?_, rfl⟩, fun W t _ => implParse_ok n s W hs h0 h1 he t, fun W => (specParse s W n true (read_ok n s W hs h0 h1 he)).mono fun e w' ⟨a, hD⟩ => ⟨a, hD.below _⟩⟩
    have e1 := atoi_num n h0 h1
    rw [he, ← me, atoi_num m m0 m1] at e1
    injection e1 with e1
    exact e1.symm
  · have h' : ∀ n : Int, -999999 ≤ n → n ≤ 999999 → numB n ≠ s := fun n h0 h1 e => h ⟨n, ⟨h0, h1⟩, e⟩
    exact ⟨0, false, fun n h0 h1 e => absurd e (h' n h0 h1), fun W t e => implParse_no s W hs h' t e, fun W => (specParse s W 0 false (read_no s W hs h')).mono fun e w' ⟨a, hD⟩ => ⟨a, hD.below _⟩⟩
theorem app_two (x : ByteArray) (hs : x.size ≤ 1048576) : ∃ (Y : ByteArray) (yb : Bool), (yb = true → goodA x ∧ Y = seal_ x) ∧ (yb = false → Y = ⟨#[]⟩) ∧
    (∀ W, Tab W → Calls Tryd.prog 16 #[.string x] W fun e w' => e = .returned (.tuple #[.string Y, .bool yb]) ∧ Below W.heap.size W w') ∧
    (∀ W : World, Calls Tryd.prog 17 #[.string x] W fun e w' => e = .returned (.tuple #[.string Y, .bool yb]) ∧ Below W.heap.size W w') := by
  by_cases h : goodA x
  · exact ⟨seal_ x, true, fun _ => ⟨h, rfl⟩, (fun h => nomatch h), fun W t => implApp_ok x W h t, fun W => (specApp_ok x W h).mono fun e w' ⟨a, hD⟩ => ⟨a, hD.below _⟩⟩
  · exact ⟨⟨#[]⟩, false, (fun h => nomatch h), fun _ => rfl, fun W t => implApp_no x W hs h t, fun W => (specApp_no x W hs h).mono fun e w' ⟨a, hD⟩ => ⟨a, hD.below _⟩⟩

/-- What vAt answers. -/
def vAtZ (zs : List Int) (n : Nat) (i : Nat) : Int := if h : i < zs.length then zs[i] else ((i : Int) * 7 + n) % 256
theorem vAtZ_bd (zs : List Int) (n i : Nat) (h : ∀ z ∈ zs, 0 ≤ z ∧ z ≤ 255) : 0 ≤ vAtZ zs n i ∧ vAtZ zs n i ≤ 255 := by
  unfold vAtZ
  split
  · exact h _ (List.getElem_mem _)
  · omega
set_option maxHeartbeats 400000 in
theorem vAt_any {A : Option Addr} {n : Nat} {zs : List Int} {B : Nat} {w : World} (c : Nat) (h : Code_ w A n zs B) (i : Nat) (hi : i ≤ 1000) :
    Calls Tryd.prog 19 #[.slice A n c, .int .i64 (i : Int)] w fun e w' => e = .returned (.int .i64 (vAtZ zs n i)) ∧ w = w' := by
  have hn := h.small
  by_cases hlt : i < n
  · have hl := h.len
    obtain ⟨a1, rfl, _, e1⟩ := h.has.intAt (k := i) (by omega)
    have HV : Hid (vAtZ zs n i = zs[i]'(by omega)) := Lib.hid (by unfold vAtZ; rw [dif_pos (by omega)])
    obtain ⟨z0, z1⟩ := h.bytes (zs[i]'(by omega)) (List.getElem_mem _)
    generalize zs[i]'(by omega) = z at e1 HV z0 z1
    have hi0 : (0 : Int) ≤ (i : Int) := by omega
    clear h hl
    go_enter Tryd.func19, Tryd.ntmps19
    go_wp2
    go_ret
    exact ⟨ret_int HV.out.symm, rfl⟩
  · have HV : Hid (vAtZ zs n i = ((i : Int) * 7 + n) % 256) := Lib.hid (by unfold vAtZ; rw [dif_neg (by have := h.len; omega)])
    clear h
    go_enter Tryd.func19, Tryd.ntmps19
    go_wp2
    go_ret
    exact ⟨ret_int HV.out.symm, rfl⟩

theorem bw_cell (w : World) (e : TypeId) (s : ByteArray) (k : Nat) (hk : k < s.size) : (Lib.bytesWorld w e s).cell? ⟨w.heap.size, k, none⟩ = some (.int .u8 (PlainAid.bt s k)) := by
  rw [Lib.bytesWorld_cell w e s k hk, bt_list s k hk]
  simp [List.getD, hk]
theorem bw_free (w : World) (e : TypeId) (s : ByteArray) (k : Nat) (hk : k < s.size) : (Lib.bytesWorld w e s).frozen? ⟨w.heap.size, k, none⟩ = false := by
  have hs : s.size ≤ (Lib.bytesCells w e s).size := by simp [Lib.bytesCells]
  simp [World.frozen?, Lib.bytesWorld_at_new]
  omega
theorem xor_ne (a b : Int) (a0 : 0 ≤ a) (a1 : a ≤ 255) (b0 : 1 ≤ b) (b1 : b ≤ 255) : ∃ c : UInt8, bits .xor .u8 a b = (c.toNat : Int) ∧ (c.toNat : Int) ≠ a := by
  have h := u8_xor a b a0 (by omega) (by omega) (by omega)
  have hlt : a.toNat ^^^ b.toNat < 2 ^ 8 := Nat.xor_lt_two_pow (by omega) (by omega)
  refine ⟨UInt8.ofNat (a.toNat ^^^ b.toNat), ?_, ?_⟩
  · rw [h, UInt8.toNat_ofNat']; congr 1; omega
  · rw [UInt8.toNat_ofNat']
    intro e
    have e2 : a.toNat ^^^ b.toNat = a.toNat := by omega
    have e3 : a.toNat ^^^ (a.toNat ^^^ b.toNat) = b.toNat := by rw [← Nat.xor_assoc, Nat.xor_self, Nat.zero_xor]
    rw [e2, Nat.xor_self] at e3
    omega
/-- The text that one changed byte leaves. -/
def setB (y : ByteArray) (k : Nat) (c : UInt8) : ByteArray := ⟨(y.data.toList.set k c).toArray⟩
theorem setB_list (y : ByteArray) (k : Nat) (c : UInt8) : (setB y k c).data.toList = y.data.toList.set k c := by simp [setB]
theorem setB_size (y : ByteArray) (k : Nat) (c : UInt8) : (setB y k c).size = y.size := by
  show (y.data.toList.set k c).toArray.size = _
  simp

theorem conv_set {P : Program} (WD : World) (src dst e : TypeId) (hs : P.underlying src = some (.slice e)) (he : P.underlying e = some (.int .u8)) (hd : P.underlying dst = some .string) (y : ByteArray) (g kk cp : Nat) (c' : UInt8) (hkn : kk < y.size)
    (hc : ∀ k, k < y.size → WD.cell? ⟨g, k, none⟩ = some (.int .u8 (PlainAid.bt y k))) :
    (convert src dst (.slice (some ⟨g, 0, none⟩) y.size cp)).run P (WD.setCell ⟨g, kk, none⟩ (.int .u8 (c'.toNat : Int))) = .ok (.string (setB y kk c')) (WD.setCell ⟨g, kk, none⟩ (.int .u8 (c'.toNat : Int))) := by
  have hl : (y.data.toList.set kk c').length = y.size := by simp
  have := run_convert_bytes_back (P := P) (WD.setCell ⟨g, kk, none⟩ (.int .u8 (c'.toNat : Int))) src dst e ⟨g, 0, none⟩ cp (y.data.toList.set kk c') hs he hd (fun j hj => by
    have hj2 : j < y.size := by rw [← hl]; exact hj
    have ea : (⟨g, 0, none⟩ : Addr).add j = ⟨g, j, none⟩ := by simp [Addr.add] <;> omega
    rw [ea]
    by_cases e : kk = j
    · subst e
      rw [World.cell?_setCell_same _ _ _ (hc kk hkn)]
      simp
    · rw [World.cell?_setCell_other _ _ _ _ (fun h => e (by cases h; rfl)), hc j hj2, List.getElem_set_ne e, bt_list y j hj2])
  rw [hl] at this
  exact this

set_option maxRecDepth 100000 in
set_option maxHeartbeats 4000000 in
theorem walk (a : Option Addr) (n c : Nat) (zs : List Int) (w : World) (hi : IsInts .u8 w a n zs) (hL : laidMet Tryd.prog Rows.fnStringsRow.laid w) :
    Calls Tryd.prog 3 #[.slice a n c] w fun e w' => e = .returned (.bool true) ∧ Below w.heap.size w w' := by
  have ht : Tab w := tab_of hL
  have he : Errs w := errs_of hL
  clear hL
  by_cases hb : 65536 < n
  · have HB := Lib.hid (big_yes a n c w hb hi.2.1)
    clear hi hb ht he
    go_enter Tryd.func3, Tryd.ntmps3
    go_wp2_with fail
    refine HB.out.mono ?_
    rintro e w1 ⟨rfl, rfl⟩
    go_wp2_with fail
    go_ret
    exact ⟨rfl, Below.refl _ _⟩
  have HK := Lib.hid (Code_.of hi (by omega))
  have HB := Lib.hid (big_no a n c w (by omega))
  have HT := Lib.hid ht
  have HE := Lib.hid he
  clear hi hb ht he
  go_enter Tryd.func3, Tryd.ntmps3
  go_wp2_with fail
  refine HB.out.mono ?_
  rintro e w1 ⟨rfl, rfl⟩
  clear HB
  go_wp2_with fail
  refine (drawFmt c HK.out).mono ?_
  rintro e w1 ⟨m, m0, m1, rfl, hb1⟩
  obtain ⟨F, fb, hF, hFs, cI, cP⟩ := fmt_two m
  have HF := Lib.hid hF
  have HI := Lib.hid cI
  have HP := Lib.hid cP
  clear hF cI cP
  go_wp2_with fail
  refine (HI.out _ (HT.out.on hb1 (Nat.le_refl _))).mono ?_
  rintro e w2 ⟨rfl, hb2⟩
  have hbb2 := hb1.trans (hb2.mono hb1.size)
  clear hb1 hb2
  go_wp2_with fail
  refine (HP.out _).mono ?_
  rintro e w3 ⟨rfl, hb3⟩
  have hbb3 := hbb2.trans (hb3.mono hbb2.size)
  have HK3 := Lib.hid (HK.out.on hbb3)
  clear hbb2 hb3 HI HP
  go_wp2_with fail
  refine (drawParse c HK3.out).mono ?_
  rintro e w4 ⟨t, hts, rfl, hb4⟩
  have hbb4 := hbb3.trans (hb4.mono hbb3.size)
  obtain ⟨v, vb, -, cI, cP⟩ := parse_two t (by omega)
  have HI := Lib.hid cI
  have HP := Lib.hid cP
  clear hbb3 hb4 HK3 cI cP
  go_wp2_with fail
  refine (HI.out _ (HT.out.on hbb4 (Nat.le_refl _)) (HE.out.on hbb4 (Nat.le_refl _))).mono ?_
  rintro e w5 ⟨rfl, hb5⟩
  have hbb5 := hbb4.trans (hb5.mono hbb4.size)
  clear hbb4 hb5
  go_wp2_with fail
  refine (HP.out _).mono ?_
  rintro e w6 ⟨rfl, hb6⟩
  have hbb6 := hbb5.trans (hb6.mono hbb5.size)
  have HK6 := Lib.hid (HK.out.on hbb6)
  clear hbb5 hb6 HI HP
  go_wp2_with fail
  refine (drawApp c HK6.out).mono ?_
  rintro e w7 ⟨x, hxs, rfl, hb7⟩
  have hbb7 := hbb6.trans (hb7.mono hbb6.size)
  obtain ⟨Y, yb, hY1, hY0, cI, cP⟩ := app_two x (by omega)
  have HY1 := Lib.hid hY1
  have HY0 := Lib.hid hY0
  have HI := Lib.hid cI
  have HP := Lib.hid cP
  clear hbb6 hb7 HK6 hY1 hY0 cI cP
  go_wp2_with fail
  refine (HI.out _ (HT.out.on hbb7 (Nat.le_refl _))).mono ?_
  rintro e w8 ⟨rfl, hb8⟩
  have hbb8 := hbb7.trans (hb8.mono hbb7.size)
  clear hbb7 hb8
  go_wp2_with fail
  refine (HP.out _).mono ?_
  rintro e w9 ⟨rfl, hb9⟩
  have hbb9 := hbb8.trans (hb9.mono hbb8.size)
  clear hbb8 hb9 HI HP
  have hself : (x.toList == x.toList) = true := beq_self_eq_true _
  have hFself : (F.toList == F.toList) = true := beq_self_eq_true _
  have hYself : (Y.toList == Y.toList) = true := beq_self_eq_true _
  have hvself : (v != v) = false := by simp
  have hmself : (m != m) = false := by simp
  obtain ⟨v2, vb2, hv2, cI, -⟩ := parse_two F (by omega)
  have HV2 := Lib.hid hv2
  have HI := Lib.hid cI
  clear hv2 cI
  have hvm : Hid (fb = true → v2 = m ∧ vb2 = true) := Lib.hid (fun h => by
    obtain ⟨h1, h2, h3⟩ := HF.out h
    exact HV2.out m h2 h3 h1.symm)
  go_wp2_with fail
  refine (HI.out _ (HT.out.on hbb9 (Nat.le_refl _)) (HE.out.on hbb9 (Nat.le_refl _))).mono ?_
  rintro e w10 ⟨rfl, hb10⟩
  have hbb10 := hbb9.trans (hb10.mono hbb9.size)
  clear hbb9 hb10 HI HV2 HF
  have rest : ∀ u : Bool, True := fun _ => trivial
  cases yb with
  | false =>
    have hY : Y = ⟨#[]⟩ := HY0.out rfl
    subst hY
    cases fb with
    | true =>
      obtain ⟨rfl, rfl⟩ := hvm.out rfl
      clear hvm HY0 HY1
      go_wp2_with fail
      go_ret
      exact ⟨rfl, hbb10⟩
    | false =>
      clear hvm HY0 HY1
      go_wp2_with fail
      go_ret
      exact ⟨rfl, hbb10⟩
  | true =>
    obtain ⟨hg, hYs⟩ := HY1.out rfl
    have hysz : Y.size ≤ 4000 := by rw [hYs]; exact hg.2.2
    have hypos : 0 < Y.size := by rw [hYs]; unfold seal_; rw [ByteArray.size_append, ByteArray.size_append, mark_size]; omega
    have hfr : front Y = x := by rw [hYs]; exact front_seal x hg.2.1
    have HV := Lib.hid (fun (W : World) (t : Tab W) => implVer_any Y W hysz t x true (fun _ => ⟨hfr.symm, rfl⟩) (fun h => absurd (by rw [hfr, hYs]) h))
    have HCH := Lib.hid (fun (b : ByteArray) (k : Nat) (c' : UInt8) (hk : k < Y.size) (hc : (c'.toNat : Int) ≠ PlainAid.bt Y k) (hbb : b.data.toList = Y.data.toList.set k c') => changed x b (front b) k c' hg.2.1 (front_clean b) (by rw [← hYs]; exact hk) (by rw [← hYs]; exact hc) (by rw [← hYs]; exact hbb))
    clear hg hYs hfr HY0 HY1
    have hcv1 := fun (W : World) => Lib.run_convert_string_bytes (P := Tryd.prog) W 9 22 5 Y Tryd.underlying9 Tryd.underlying22 Tryd.underlying5
    cases fb
    case' true => obtain ⟨rfl, rfl⟩ := hvm.out rfl
    all_goals
      clear hvm
      go_wp2_with fail
      refine (HV.out _ (HT.out.on hbb10 (Nat.le_refl _))).mono ?_
      rintro e w11 ⟨rfl, hb11⟩
      have hbb11 := hbb10.trans (hb11.mono hbb10.size)
      clear hbb10 hb11 HV
      go_wp2_with fail
      have hbw := hbb11.trans ((Lib.bytesWorld_below w11 5 Y).mono hbb11.size)
      have hcell := fun k hk => bw_cell w11 5 Y k hk
      have hfree := fun k hk => bw_free w11 5 Y k hk
      have hlt11 : w11.heap.size < (Lib.bytesWorld w11 5 Y).heap.size := by rw [Lib.bytesWorld_size]; omega
      have hle11 : w.heap.size ≤ w11.heap.size := hbb11.size
      generalize grownCap w11 Y.size 0 5 = cp at *
      clear hcv1
      obtain ⟨WB, hWB⟩ : ∃ WB, Lib.bytesWorld w11 5 Y = WB := ⟨_, rfl⟩
      rw [hWB] at hbw hlt11 ⊢
      simp only [hWB] at hcell hfree
      clear hWB
      have HKB := Lib.hid (HK.out.on hbw)
      obtain ⟨z0, z1⟩ := vAtZ_bd zs n 9 HK.out.bytes
      obtain ⟨y0, y1⟩ := vAtZ_bd zs n 10 HK.out.bytes
      refine (vAt_any c HKB.out 9 (by omega)).mono ?_
      rintro e w12 ⟨rfl, rfl⟩
      generalize vAtZ zs n 9 = v1 at *
      have hyi : (1 : Int) ≤ (Y.size : Int) := by omega
      obtain ⟨k0, k1⟩ := mod_lt' v1 (Y.size : Int) hyi
      obtain ⟨kz, hkz⟩ : ∃ kz : Int, v1 % (Y.size : Int) = kz := ⟨_, rfl⟩
      rw [hkz] at k0 k1
      obtain ⟨kk, rfl⟩ : ∃ kk : Nat, kz = (kk : Int) := ⟨kz.toNat, by omega⟩
      have hkn : kk < Y.size := by omega
      have hc1 := hcell kk hkn
      have hf1 := hfree kk hkn
      have b0 := PlainAid.bt_nonneg Y kk
      have b1 := PlainAid.bt_le Y kk
      obtain ⟨WD, hWD⟩ : ∃ WD : World, ({ WB with drawn := WB.drawn + 1 } : World) = WD := ⟨_, rfl⟩
      have hc2 : WD.cell? ⟨w11.heap.size, kk, none⟩ = some (.int .u8 (PlainAid.bt Y kk)) := by rw [← hWD]; exact hc1
      have hf2 : WD.frozen? ⟨w11.heap.size, kk, none⟩ = false := by rw [← hWD]; exact hf1
      have hcD : Hid (∀ k, k < Y.size → WD.cell? ⟨w11.heap.size, k, none⟩ = some (.int .u8 (PlainAid.bt Y k))) := Lib.hid (fun k hk => by rw [← hWD]; exact hcell k hk)
      have hbD : Below w.heap.size w WD := by rw [← hWD]; exact ⟨hbw.os, hbw.tape, hbw.output, hbw.size, hbw.block⟩
      have HKD := Lib.hid (HK.out.on hbD)
      obtain ⟨d0, d1⟩ : 1 ≤ 1 + vAtZ zs n 10 % 255 ∧ 1 + vAtZ zs n 10 % 255 ≤ 255 := by omega
      obtain ⟨c', hx1, hx2⟩ := xor_ne (PlainAid.bt Y kk) (1 + vAtZ zs n 10 % 255) b0 b1 d0 d1
      have HV10 := Lib.hid (fun (W : World) (h : Code_ W a n zs w.heap.size) => flip (vAt_any c h 10 (by omega)))
      generalize vAtZ zs n 10 = v10 at *
      have hcv2 := conv_set (P := Tryd.prog) WD 22 9 5 Tryd.underlying22 Tryd.underlying5 Tryd.underlying9 Y w11.heap.size kk cp c' hkn hcD.out
      have HCV := Lib.hid hcv2
      have hsn : seal_ (front (setB Y kk c')) ≠ setB Y kk c' := HCH.out _ kk c' hkn hx2 (setB_list Y kk c')
      have HVS := Lib.hid (fun (W : World) (t : Tab W) => implVer_any (setB Y kk c') W (by rw [setB_size]; exact hysz) t ⟨#[]⟩ false (fun h => absurd h hsn) (fun _ => ⟨rfl, rfl⟩))
      have hbS := hbD.setCell (p := ⟨w11.heap.size, kk, none⟩) hle11 (.int .u8 (c'.toNat : Int))
      have HTS := Lib.hid (HT.out.on hbS (Nat.le_refl _))
      have HBS := Lib.hid hbS
      clear hcv2 hsn hbS
      generalize setB Y kk c' = YS at *
      generalize PlainAid.bt Y kk = yk at *
      have HWD := Lib.hid hWD
      clear hcell hfree hc1 hf1 hWD hbw
      go_wp2_with fail
      try rw [hkz]
      clear hkz
      refine wp_region_still_tail 13 (by kernel_rfl) (by kernel_rfl) ?_
      rw [HWD.out]
      simp only [List.take_succ_cons, List.take_zero, List.drop_succ_cons, List.drop_zero]
      repeat still_step
      still_call (HV10.out WD HKD.out)
      repeat still_step
      refine wpStill_nil ?_
      have hcv2 := HCV.out
      have hx3 := hx1
      clear HCV HWD HKD HV10 HCH HKB hcD
      go_wp2_with fail
      refine (HVS.out _ HTS.out).mono ?_
      rintro e w13 ⟨rfl, hb13⟩
      have hbZ := HBS.out.trans (hb13.mono HBS.out.size)
      clear hb13 HBS HTS HVS
      go_wp2_with fail
      go_ret
      exact ⟨rfl, hbZ⟩
theorem own : ownKnob Tryd.prog.godebug = none := by kernel_rfl
theorem laidOut : laidOutB Tryd.prog = true := by kernel_rfl

set_option maxRecDepth 100000 in
theorem lifted (os : Os) (started : os.Started) (H : Type) (enc : TypeId × Value → H) :
    ReturnsInHanded {} Tryd.checked os 3 .any (fun w args => (Rows.fnStringsSpec.pre enc Tryd.prog Tryd.f3 Rows.fnStringsRow.domain false w args ∧ laidMetH Tryd.prog Rows.fnStringsRow.laid w) ∧ sizedMet enc Tryd.prog Tryd.f3 (OpenSpec.ofChange Rows.fnStringsSpec) false w args)
      (Rows.fnStringsSpec.post enc Tryd.prog Tryd.f3 false true false false) := by
  refine returnsInHanded_of_change_and (C := Tryd.checked) (X := fun w _ => laidMetH Tryd.prog Rows.fnStringsRow.laid w) (fun _ _ _ hh h => h.of_heap hh) own started (by kernel_rfl) Tryd.func3
    (ChangeSpec.witness_shaped (enc := enc) (C := Tryd.checked) (os := os) (X := fun w _ => laidMetH Tryd.prog Rows.fnStringsRow.laid w) false (World.laidAll Tryd.prog os Rows.fnStringsRow.laid) #[.slice none 0 0] 8 (World.laidAll_os _ _ _)
      (World.shaped_of_ZipB (by kernel_rfl) (by kernel_rfl)) (by kernel_rfl) (by kernel_rfl) (by kernel_rfl)
      (by rw [MakeChecks.laidMetH_plain _ _ _ (by kernel_rfl)]; exact laidMet_laidAll _ (by kernel_rfl) (by kernel_rfl))) ?_
  intro W base args ds gs before hval0 hW hcnd hsz0 hL _
  rw [MakeChecks.laidMetH_plain _ _ _ (by kernel_rfl)] at hL
  have hval : ∀ (j : Nat) t v, Tryd.f3.params[j]? = some t → args[j]? = some v → Value.okWide Tryd.prog W .any base t v := hval0
  have hW' := hW
  obtain ⟨p, q, hA0, hV, rfl, hfz, hnd⟩ := hW
  have hA : DataW.TrodAll enc Tryd.prog W 0 (fun _ => true) true Tryd.f3.params.toList args.toList ds p := hA0
  rw [Tryd.params3] at hA hval
  obtain ⟨v0, vs0, d0, ds0, p0, q0, hargs, rfl, rfl, h0, r0⟩ := trodAll_cons hA
  obtain ⟨rfl, rfl, rfl⟩ := trodAll_nil r0
  obtain rfl : args = #[v0] := by cases args; simp_all
  obtain ⟨rfl, rfl⟩ := trodVars_none hV
  obtain ⟨a0, len0, cap0, rfl⟩ := okWide_slice Tryd.underlying22 (hval 0 22 v0 rfl rfl)
  have k0 := h0
  have lt0 : ∀ x ∈ p0, x.block < W.heap.size := by obtain ⟨m, hm⟩ := k0; exact DataW.trod_lt m _ _ _ hm
  obtain ⟨z0, w0⟩ : ∃ zs, IsInts .u8 W a0 len0 zs := by
    obtain ⟨fuel, hf⟩ := h0
    rcases open_ints Tryd.underlying22 Tryd.underlying5 (by kernel_rfl) hf with ⟨hcs, _⟩ | ⟨x, l, c, zs, hcs, _, hl, hm, hz, _, hcell, hwz⟩
    · simp [Value.cells] at hcs
      obtain ⟨rfl, rfl, rfl⟩ := hcs
      exact ⟨[], isInts_nil _ W⟩
    · simp [Value.cells] at hcs
      obtain ⟨rfl, rfl, rfl⟩ := hcs
      exact ⟨_, isInts_some hl hm (by simpa using hz) hcell hwz⟩
  clear hA0 hval0
  refine (walk a0 len0 cap0 z0 W w0 hL).mono fun e W' ⟨he, bel⟩ => ?_
  subst he
  exact ⟨_, rfl, _, _, _, [], _, [], hW', trodAll_mk1 (shut_bool Tryd.underlying4 _), (trodAll_cons_mk (Below.trod laidOut (by kernel_rfl) (of_decide_eq_true (by kernel_rfl)) k0 bel lt0) trodAll_mk0), rfl, bel.frame _, fun h => by cases h⟩

theorem over : Rows.fnStringsRow.holds Tryd.pinned (OpenSpec.ofChange Rows.fnStringsSpec) :=
  OpenClaim.holds_of_wide 3 Tryd.f3 rfl rfl rfl rfl rfl rfl rfl ⟨rfl, rfl, rfl, rfl, rfl⟩ rfl rfl rfl rfl rfl (by kernel_rfl) Tryd.func3 (by kernel_rfl)
    (of_decide_eq_true (by kernel_rfl)) (by unfold Func.isWrapper; first | (rw [if_pos (by decide +kernel)]; kernel_rfl) | (rw [if_neg (by decide +kernel)]; exact ⟨rfl, rfl⟩))
    (fun os started H enc _ => lifted os started H enc)

/-- The tied card: the statement. -/
theorem proved : Rows.FnStringsCardSaid :=
  Claim7.holds_tied_plain_at .later [] [.data, .data, .data, .sentinel, .sentinel] true (true, "64314e08deafcd9de51d70fe94e31dcb63d615ad5c9a9f3ac9dd6baf4d0a3342") true
    over (fun _ h => by cases h) (by kernel_rfl) (fun _ h => by cases h) fnStrings_row_tie rfl ⟨rfl, rfl⟩ (by kernel_rfl) rfl
    (fun f fn hf hfn => by
      obtain rfl : f = 3 := Option.some.inj ((show Tryd.prog.funcNamed "loop.example/g00924/laws.FnStrings" = some 3 by kernel_rfl).symm.trans hf) |>.symm
      obtain rfl : fn = Tryd.f3 := (Option.some.inj (Tryd.func3.symm.trans hfn)).symm
      exact ⟨by kernel_rfl, fun j t ht => by
        rw [Tryd.params3] at ht
        rcases j with _ | j
        · have h3 : t = 22 := by simpa using ht.symm
          subst h3
          exact (show Tryd.prog.wantsStandIn 22 = false by kernel_rfl)
        · simp at ht⟩)
    (by kernel_rfl)
end Go.Proofs.YtcbdifmnbolgpaaDoor.fnStrings
