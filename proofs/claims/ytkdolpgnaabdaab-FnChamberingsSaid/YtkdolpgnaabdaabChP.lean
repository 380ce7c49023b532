/- Chapter 4: LockagesInOrder: parts of a row of hulls, the model and the program. -/
import Derived.Test.YtkdolpgnaabdaabChO
namespace Go.Proofs.Ytkdolpgnaabdaab
open Go.RowKit Go.PlainAid Go.Sort
set_option linter.unusedVariables false
set_option linter.unusedSimpArgs false

theorem flatHull_drop : ∀ (hs : List THull) (b : Nat), flatHull (hs.drop b) = (flatHull hs).drop (b * 3)
  | _, 0 => by simp
  | [], b + 1 => by simp [flatHull]
  | h :: t, b + 1 => by
    rw [List.drop_succ_cons, flatHull_drop t b, show (b + 1) * 3 = b * 3 + 1 + 1 + 1 by omega]
    simp [flatHull]
theorem flatHull_take : ∀ (hs : List THull) (b : Nat), flatHull (hs.take b) = (flatHull hs).take (b * 3)
  | _, 0 => by simp [flatHull]
  | [], b + 1 => by simp [flatHull]
  | h :: t, b + 1 => by
    rw [List.take_succ_cons, show (b + 1) * 3 = b * 3 + 1 + 1 + 1 by omega]
    simp [flatHull, flatHull_take t b]
/-- A part of a row. -/
theorem hulls_cut {w : World} {B : Nat} {a : Addr} {n : Nat} {hs : List THull} (h : IsHulls w B (some a) n hs) (b k : Nat) (hb : b ≤ k) (hk : k < n) :
    IsHulls w B (some (a.add (b * 3))) (k + 1 - b) ((hs.take (k + 1)).drop b) := by
  refine ⟨by rw [List.length_drop, List.length_take, h.len]; omega, h.low, ?_⟩
  intro j u hu
  rw [flatHull_drop, flatHull_take, List.getElem?_drop, List.getElem?_take] at hu
  split at hu
  · obtain ⟨a', e, hb', hc⟩ := h.has _ _ hu
    injection e with e
    subst e
    exact ⟨_, rfl, by rw [addBlock]; exact hb', by rw [Go.Deep.add_add]; exact hc⟩
  · cases hu
theorem cut_one {hs : List THull} {k : Nat} (hk : k < hs.length) : (hs.take (k + 1)).drop k = [hs.getD k noHull] := by
  rw [List.take_succ_eq_append_getElem hk, getHull hk, List.drop_append]
  simp [List.length_take, Nat.min_eq_left (Nat.le_of_lt hk)]
theorem cut_sub (hs : List THull) (b k : Nat) : ((hs.take (k + 1)).drop b).Sublist hs := (List.drop_sublist _ _).trans (List.take_sublist _ _)
/-- What LockagesInOrder answers. -/
structure LioA (c : TChamber) (hs : List THull) (L : List Int) (x : Bool) : Prop where
  bad : (decide (goodC c) && gHs hs) = false → L = [] ∧ x = false
  no : goodC c → goodHs hs → lioN c hs hs.length = none → L = [] ∧ x = false
  yes : ∀ l b o, goodC c → goodHs hs → lioN c hs hs.length = some (l, b, o) → L = o ∧ x = true
theorem lioA_ex (c : TChamber) (hs : List THull) : ∃ L x, LioA c hs L x := by
  by_cases h : (decide (goodC c) && gHs hs) = false
  · exact ⟨[], false, fun _ => ⟨rfl, rfl⟩, fun _ _ _ => ⟨rfl, rfl⟩, fun l b o h1 h2 _ => by rw [decide_eq_true h1, gHs_yes h2] at h; cases h⟩
  · cases e : lioN c hs hs.length with
    | none => exact ⟨[], false, fun g => absurd g h, fun _ _ _ => ⟨rfl, rfl⟩, fun l b o _ _ g => by rw [e] at g; cases g⟩
    | some r =>
      obtain ⟨l, b, o⟩ := r
      exact ⟨o, true, fun g => absurd g h, fun _ _ g => (by rw [e] at g; cases g), fun l' b' o' _ _ g => (by rw [e] at g; injection g with g; injection g with g1 g; injection g with g2 g3; subst g3; exact ⟨rfl, rfl⟩)⟩
theorem LioA.len {c : TChamber} {hs : List THull} {L : List Int} {x : Bool} (h : LioA c hs L x) : L.length ≤ 4 := by
  by_cases g : (decide (goodC c) && gHs hs) = false
  · rw [(h.bad g).1]; simp
  · obtain ⟨hc, hg⟩ := good_of (by simpa using g : (decide (goodC c) && gHs hs) = true)
    cases e : lioN c hs hs.length with
    | none => rw [(h.no hc hg e).1]; simp
    | some r =>
      obtain ⟨l, b, o⟩ := r
      rw [(h.yes l b o hc hg e).1, (lioN_bd e).2.2]
      exact hg.1
theorem lio_fail1 {c : TChamber} {hs : List THull} {k l b : Nat} {o : List Int} (h : lioN c hs k = some (l, b, o)) (h1 : fits c [hs.getD k noHull] = false) (hk : k < hs.length) : lioN c hs hs.length = none := by
  have : lioN c hs (k + 1) = none := by rw [lioN, h]; dsimp only; rw [if_neg (by rw [h1]; simp)]
  obtain ⟨d, hd⟩ : ∃ d, hs.length = k + 1 + d := ⟨hs.length - (k + 1), by omega⟩
  rw [hd]
  exact lioN_none this d
theorem lio_same {c : TChamber} {hs : List THull} {k l b : Nat} {o : List Int} (h : lioN c hs k = some (l, b, o)) (h1 : fits c [hs.getD k noHull] = true) (h2 : fits c ((hs.take (k + 1)).drop b) = true) : lioN c hs (k + 1) = some (l, b, o ++ [(l : Int)]) := by
  rw [lioN, h]; dsimp only; rw [if_pos h1, if_pos h2]
theorem lio_next {c : TChamber} {hs : List THull} {k l b : Nat} {o : List Int} (h : lioN c hs k = some (l, b, o)) (h1 : fits c [hs.getD k noHull] = true) (h2 : fits c ((hs.take (k + 1)).drop b) = false) : lioN c hs (k + 1) = some (l + 1, k, o ++ [((l + 1 : Nat) : Int)]) := by
  rw [lioN, h]; dsimp only; rw [if_pos h1, if_neg (by rw [h2]; simp)]
theorem Try.infoI' : (Try.prog.info? 3).map (fun i => (i.zero, i.size, i.bytes)) = some (some (.int .i64 0), 1, 8) := by kernel_rfl

set_option maxRecDepth 100000 in
set_option maxHeartbeats 2000000 in
theorem lioS_any {w : World} {B : Nat} {A : Option Addr} {n : Nat} {hs : List THull} (cl cb : Int) (c : Nat) (h : IsHulls w B A n hs) (hm : n ≤ 1048576) (hnc : n ≤ c) (L : List Int) (x : Bool) (hA : LioA ⟨cl, cb⟩ hs L x) (m : Nat) (hl : L.length = m) :
    Calls Try.prog 28 #[.agg #[.int .i64 cl, .int .i64 cb], .slice A n c] w fun e w' => ∃ g c', e = .returned (.tuple #[.slice (some ⟨g, 0, none⟩) m c', .bool x]) ∧
      w'.ownsRow w.heap.size 3 1 (.slice (some ⟨g, 0, none⟩) m c') m (L.map (.int .i64)) ∧ Below w.heap.size w w' := by
  obtain ⟨i0, hi, hz0, hz1, hz2⟩ := info_parts Try.infoI'
  have CC := Lib.hid (fun W => l4Chamber_any cl cb W)
  have CG := Lib.hid (fun W (hb : Below w.heap.size w W) => l4Good_any c (h.below hb h.low) (Nat.le_trans hm (by unfold maxLen; omega)))
  have CF := Lib.hid (fun (hc : goodC ⟨cl, cb⟩) (hg : goodHs hs) a (ha : A = some a) b k (hb : b ≤ k) (hk : k < n) q W (hB : Below w.heap.size w W) => l4Fits_any cl cb q (hulls_cut (ha ▸ h.below hB h.low) b k hb hk) hc (goodHs_sub hg (cut_sub hs b k)))
  have HH := Lib.hid h
  have HA := Lib.hid hA
  have HGI := Lib.hid (gHs_iff hs)
  have HM := Lib.hid hl
  have HEMP := Lib.hid (fun (W : World) (hb : Below w.heap.size w W) => (World.ownsRow_made (size := 1) (e := 3) W #[] 0 hb.size (by unfold maxLen; omega) rfl))
  obtain ⟨xb, hxb⟩ : ∃ x, w.heap.size = x := ⟨_, rfl⟩
  obtain ⟨W1, hW1⟩ : ∃ W, w.alloc (.cells #[.int .i64 cl, .int .i64 cb] 43) = W := ⟨_, rfl⟩
  have HB1 := Lib.hid (show Below w.heap.size w W1 by rw [← hW1]; exact below1 w _)
  have x0 : W1.cell? ⟨xb, 0, none⟩ = some (.int .i64 cl) := by rw [← hW1, ← hxb, sNew]; rfl
  have x1 : W1.cell? ⟨xb, 1, none⟩ = some (.int .i64 cb) := by rw [← hW1, ← hxb, sNew]; rfl
  have HOW := Lib.hid (World.ownsRow_made (size := 1) (e := 3) W1 #[] 0 (Nat.le_refl _) (by unfold maxLen; omega) rfl)
  have HBe := Lib.hid ((Below.refl W1.heap.size W1).alloc (Nat.le_refl _) (.cells #[] 3))
  have hlx := World.block_lt_of_cell? _ _ x0
  clear h hA hl
  go_enter Try.func28, Try.ntmps28
  go_wp2_with fail
  try rw [hW1]
  obtain ⟨W2, hW2⟩ : ∃ W, W1.alloc (.cells #[] 3) = W := ⟨_, rfl⟩
  rw [hW2] at HOW HBe ⊢
  have X := Lib.hid (fun W (hq : Below W1.heap.size W1 W) => show W.cell? ⟨xb, 0, none⟩ = some (.int .i64 cl) ∧ W.cell? ⟨xb, 1, none⟩ = some (.int .i64 cb) from ⟨(hq.cell hlx).trans x0, (hq.cell (p := ⟨xb, 1, none⟩) hlx).trans x1⟩)
  have BW := Lib.hid (fun W (hq : Below W1.heap.size W1 W) => HB1.out.trans (hq.mono HB1.out.size))
  clear x0 x1 hlx hW1 hW2
  refine (CC.out _).mono ?_
  rintro e w1 ⟨rfl, hb⟩
  have Q1 := Lib.hid (HBe.out.trans (hb.mono HBe.out.size))
  have O1 := Lib.hid (own_below HOW.out hb)
  clear hb CC HOW HBe
  by_cases hc : goodC ⟨cl, cb⟩
  · rw [decide_eq_true hc]
    have HC := Lib.hid hc
    clear hc
    go_wp2_with fail
    refine (CG.out _ (BW.out _ Q1.out)).mono ?_
    rintro e w2 ⟨rfl, hb⟩
    have Q2 := Lib.hid (Q1.out.trans (hb.mono Q1.out.size))
    have O2 := Lib.hid (own_below O1.out hb)
    clear hb CG Q1 O1
    obtain ⟨G, hG⟩ : ∃ G, gHs hs = G := ⟨_, rfl⟩
    rw [hG] at HGI ⊢
    have HGE := Lib.hid hG
    clear hG
    cases G with
    | false =>
      obtain ⟨rfl, rfl⟩ := HA.out.bad (by rw [HGE.out, Bool.and_false])
      obtain rfl : 0 = m := HM.out
      clear HA CF HGI X
      go_wp2_with fail
      refine bodyPost_ret (results_tmp2 rfl _ _ _) rfl ?_
      exact ⟨_, 0, rfl, own_low O2.out HB1.out.size, by first | exact BW.out _ Q2.out | (rw [← hxb]; exact BW.out _ Q2.out)⟩
    | true =>
      have HG := Lib.hid (HGI.out.1 rfl)
      have HANO := Lib.hid (HA.out.no HC.out HG.out)
      have HAYES := Lib.hid (fun l b o => HA.out.yes l b o HC.out HG.out)
      have CFk := Lib.hid (CF.out HC.out HG.out)
      have hn4 : n ≤ 4 := by rw [← HH.out.len]; exact HG.out.1
      rw [HH.out.len] at HANO HAYES
      clear HA CF HGI
      go_wp2_with fail
      go_loopw [6, 7, 8, 9] (fun v p q i wr => ∃ (k l b g0 cp : Nat) (o : List Int), k ≤ n ∧ i = .int .i64 k ∧ p = .int .i64 l ∧ q = .int .i64 b ∧ Hid (lioN ⟨cl, cb⟩ hs k = some (l, b, o)) ∧ v = .slice (some ⟨g0, 0, none⟩) k cp ∧ W1.heap.size ≤ g0 ∧ wr.ownsRow W1.heap.size 3 1 (.slice (some ⟨g0, 0, none⟩) k cp) k (o.map (.int .i64)) ∧ Below W1.heap.size W1 wr) (fun _ _ _ i _ => n - (intOf i).toNat)
      case atStart => exact ⟨0, 0, 0, _, 0, [], Nat.zero_le _, rfl, rfl, rfl, Lib.hid rfl, rfl, Nat.le_refl _, O2.out, Q2.out⟩
      case round =>
        obtain ⟨k, l, b, g0, cp, o, hk, rfl, rfl, rfl, hlio, rfl, hg0, hown, hq⟩ := hrel
        by_cases hlt : k < n
        · have hkh : k < hs.length := by rw [HH.out.len]; exact hlt
          obtain ⟨aH, rfl, -, -⟩ := HH.out.has.Hull hkh
          obtain ⟨hlk, hbk, hol⟩ := lioN_bd hlio.out
          have C1 := Lib.hid (CFk.out aH rfl k k (Nat.le_refl _) hlt (c - k))
          have C2 := Lib.hid (CFk.out aH rfl b k hbk hlt (c - b))
          rw [cut_one hkh, Nat.add_sub_cancel_left] at C1
          obtain ⟨F1, hF1⟩ : ∃ F, fits ⟨cl, cb⟩ [hs.getD k noHull] = F := ⟨_, rfl⟩
          obtain ⟨F2, hF2⟩ : ∃ F, fits ⟨cl, cb⟩ ((hs.take (k + 1)).drop b) = F := ⟨_, rfl⟩
          have H1 := Lib.hid hF1
          have H2 := Lib.hid hF2
          rw [hF1] at C1
          rw [hF2] at C2
          have Q := Lib.hid hq
          have O := Lib.hid hown
          have hck : ¬ c = k := by omega
          have hcb2 : ¬ c = b := by omega
          have hi1 : (k : Int) ≤ (k : Int) + 1 := by omega
          have hi2 : (k : Int) + 1 ≤ (c : Int) := by omega
          have hi3 : (b : Int) ≤ (k : Int) + 1 := by omega
          have hi4 : (0 : Int) ≤ (k : Int) := by omega
          have hi5 : (0 : Int) ≤ (b : Int) := by omega
          have hi6 : (k : Int) < (n : Int) := by omega
          obtain ⟨x0, x1⟩ := X.out _ hq
          have X0 := fun (d : Nat) (os : Array Obj) => cell_regrown x0 d os
          have X1 := fun (d : Nat) (os : Array Obj) => cell_regrown x1 d os
          have cM := fun (dr : Nat) (os : Array Obj) => Calls.regrown_of (w := wr) (d := dr) (os := os) (C1.out _ ((BW.out _ Q.out).trans ((below_regrown wr dr os).mono (BW.out _ Q.out).size)))
          clear hF1 hF2 hq hown x0 x1 C1 CFk
          go_wp2
          refine wp_region_quiet_below (by kernel_rfl) (by kernel_rfl) ?_
          repeat (go_big_quiet_step (first | exact cM _ _))
          refine wpQuiet_nil ?_
          intro _ hw'
          obtain ⟨⟨dq, osq⟩, hw''⟩ := hw'
          subst hw''
          have Q3 := Lib.hid (Q.out.trans ((below_regrown wr dq osq).mono Q.out.size))
          obtain ⟨W3, hW3⟩ : ∃ W, grow (redrawn wr dq) osq = W := ⟨_, rfl⟩
          have hb3 := below_regrown wr dq osq
          rw [hW3] at Q3 hb3
          have O3 := Lib.hid (own_below O.out hb3)
          simp only [hW3]
          clear hW3 X0 X1 cM hb3
          cases F1 with
          | false =>
            obtain ⟨rfl, rfl⟩ := HANO.out (by have := lio_fail1 hlio.out H1.out hkh; rwa [HH.out.len] at this)
            obtain rfl : 0 = m := HM.out
            clear HANO HAYES C2 H1 H2
            go_wp2_with fail
            refine bodyPost_ret (results_tmp2 rfl _ _ _) rfl ?_
            exact ⟨_, 0, rfl, HEMP.out _ (BW.out _ Q3.out), by first | exact (BW.out _ Q3.out).alloc (BW.out _ Q3.out).size _ | (rw [← hxb]; exact (BW.out _ Q3.out).alloc (BW.out _ Q3.out).size _)⟩
          | true =>
            obtain ⟨x0, x1⟩ := X.out _ Q3.out
            have X0 := fun (d : Nat) (os : Array Obj) => cell_regrown x0 d os
            have X1 := fun (d : Nat) (os : Array Obj) => cell_regrown x1 d os
            have cM := fun (dr : Nat) (os : Array Obj) => Calls.regrown_of (w := W3) (d := dr) (os := os) (C2.out _ ((BW.out _ Q3.out).trans ((below_regrown W3 dr os).mono (BW.out _ Q3.out).size)))
            clear x0 x1 C2 HANO
            go_wp2
            refine wp_region_quiet_below (by kernel_rfl) (by kernel_rfl) ?_
            repeat (go_big_quiet_step (first | exact cM _ _))
            refine wpQuiet_nil ?_
            intro _ hw'
            obtain ⟨⟨dq, osq⟩, hw''⟩ := hw'
            subst hw''
            have Q4 := Lib.hid (Q3.out.trans ((below_regrown W3 dq osq).mono Q3.out.size))
            obtain ⟨W4, hW4⟩ : ∃ W, grow (redrawn W3 dq) osq = W := ⟨_, rfl⟩
            have hb4 := below_regrown W3 dq osq
            rw [hW4] at Q4 hb4
            have O4 := Lib.hid (own_below O3.out hb4)
            have Q4s := Q4.out.size
            simp only [hW4]
            clear hW4 X0 X1 cM hb4
            cases F2 with
            | true =>
              have HN := Lib.hid (lio_same hlio.out H1.out H2.out)
              clear H1 H2
              go_wp2_with (at_builtin; refine wpList_append_own _ rfl (.tmp 46) (.tmp 48) 25 rfl W1.heap.size 3 i0 (.int .i64 0) 1 8 Try.underlying25 hi hz0 hz1 hz2 rfl (by decide) (.slice (some ⟨g0, 0, none⟩) (k) cp) (k) _ rfl (O4.out.alloc _) ⟨W4.heap.size, 0, none⟩ 1 1 [.int .i64 (l : Int)] rfl rfl (cell_one_new _ _ _) (by simp [Value.oneCell']) (by unfold maxLen; omega) (by omega) (by have := (Q4.out).size; simp; omega) ?_; intro v1 w1 hown1 hgrow1 hnil1; obtain ⟨g1, c1, rfl, hg1⟩ := own_some hown1 (fun e => nomatch (hnil1.1 e).1); have hb1 := ((Q4.out).alloc (Q4.out).size (.cells #[.int .i64 (l : Int)] 3)).grown hgrow1 (by have := (Q4.out).size; simp; omega) (fun q hq => by cases hq; assumption); clear hnil1 hgrow1 )
              go_roundw
              case rel => exact ⟨k + 1, l, b, g1, c1, o ++ [(l : Int)], by omega, by go_num, rfl, rfl, HN, rfl, hg1, by rw [List.map_append]; exact hown1, hb1⟩
              case measure => simp [intOf]; omega
            | false =>
              have HN := Lib.hid (lio_next hlio.out H1.out H2.out)
              clear H1 H2
              go_wp2_with (at_builtin; refine wpList_append_own _ rfl (.tmp 46) (.tmp 48) 25 rfl W1.heap.size 3 i0 (.int .i64 0) 1 8 Try.underlying25 hi hz0 hz1 hz2 rfl (by decide) (.slice (some ⟨g0, 0, none⟩) (k) cp) (k) _ rfl (O4.out.alloc _) ⟨W4.heap.size, 0, none⟩ 1 1 [.int .i64 ((l : Int) + 1)] rfl rfl (cell_one_new _ _ _) (by simp [Value.oneCell']) (by unfold maxLen; omega) (by omega) (by have := (Q4.out).size; simp; omega) ?_; intro v1 w1 hown1 hgrow1 hnil1; obtain ⟨g1, c1, rfl, hg1⟩ := own_some hown1 (fun e => nomatch (hnil1.1 e).1); have hb1 := ((Q4.out).alloc (Q4.out).size (.cells #[.int .i64 ((l : Int) + 1)] 3)).grown hgrow1 (by have := (Q4.out).size; simp; omega) (fun q hq => by cases hq; assumption); clear hnil1 hgrow1 )
              go_roundw
              case rel => exact ⟨k + 1, l + 1, k, g1, c1, o ++ [((l + 1 : Nat) : Int)], by omega, by go_num, by go_num, rfl, HN, rfl, hg1, by rw [List.map_append]; exact hown1, hb1⟩
              case measure => simp [intOf]; omega
        · obtain rfl : k = n := by omega
          obtain ⟨hL, rfl⟩ := HAYES.out l b o hlio.out
          obtain rfl : k = m := by rw [← HM.out, hL]; exact ((lioN_bd hlio.out).2.2).symm
          have O5 := Lib.hid (own_low hown HB1.out.size)
          have Q := Lib.hid hq
          subst hL
          clear HANO HAYES CFk hown hq
          go_wp2_with fail
          refine bodyPost_ret (results_tmp2 rfl _ _ _) rfl ?_
          exact ⟨g0, cp, rfl, O5.out, by first | exact BW.out _ Q.out | (rw [← hxb]; exact BW.out _ Q.out)⟩
  · rw [decide_eq_false hc]
    obtain ⟨rfl, rfl⟩ := HA.out.bad (by rw [decide_eq_false hc, Bool.false_and])
    obtain rfl : 0 = m := HM.out
    clear HA CF HGI hc CG X
    go_wp2_with fail
    refine bodyPost_ret (results_tmp2 rfl _ _ _) rfl ?_
    exact ⟨_, 0, rfl, own_low O1.out HB1.out.size, by first | exact BW.out _ Q1.out | (rw [← hxb]; exact BW.out _ Q1.out)⟩

set_option maxRecDepth 100000 in
set_option maxHeartbeats 2000000 in
theorem lioI_any {w : World} {B : Nat} {A : Option Addr} {n : Nat} {hs : List THull} (cl cb : Int) (c : Nat) (h : IsHulls w B A n hs) (hm : n ≤ 1048576) (hnc : n ≤ c) (L : List Int) (x : Bool) (hA : LioA ⟨cl, cb⟩ hs L x) (m : Nat) (hl : L.length = m) :
    Calls Try.prog 27 #[.agg #[.int .i64 cl, .int .i64 cb], .slice A n c] w fun e w' => ∃ g c', e = .returned (.tuple #[.slice (some ⟨g, 0, none⟩) m c', .bool x]) ∧
      w'.ownsRow w.heap.size 3 1 (.slice (some ⟨g, 0, none⟩) m c') m (L.map (.int .i64)) ∧ Below w.heap.size w w' := by
  obtain ⟨i0, hi, hz0, hz1, hz2⟩ := info_parts Try.infoI'
  have CAN := Lib.hid (fun W (hb : Below w.heap.size w W) => canPack_any cl cb c (h.below hb h.low) hm)
  have CF := Lib.hid (fun (hc : goodC ⟨cl, cb⟩) (hg : goodHs hs) a (ha : A = some a) b k (hb : b ≤ k) (hk : k < n) W (hB : Below w.heap.size w W) => hasPacking_any cl cb (c - b) (hulls_cut (ha ▸ h.below hB h.low) b k hb hk) (by omega) (by omega) hc (goodHs_sub hg (cut_sub hs b k)))
  have CF1 := Lib.hid (fun (hc : goodC ⟨cl, cb⟩) (hg : goodHs hs) k (hk : k < n) W a (hB : IsHulls W W.heap.size (some a) 1 [hs.getD k noHull]) => hasPacking_any cl cb 1 hB (by omega) (Nat.le_refl _) hc (by rw [← cut_one (by rw [h.len]; exact hk)]; exact goodHs_sub hg (cut_sub hs k k)))
  have HH := Lib.hid h
  have HA := Lib.hid hA
  have HGD := Lib.hid (fun h => good_of (c := ⟨cl, cb⟩) (hs := hs) h)
  have HM := Lib.hid hl
  have HEMP := Lib.hid (fun (W : World) (hb : Below w.heap.size w W) => (World.ownsRow_made (size := 1) (e := 3) W #[] 0 hb.size (by unfold maxLen; omega) rfl))
  obtain ⟨xb, hxb⟩ : ∃ x, w.heap.size = x := ⟨_, rfl⟩
  obtain ⟨W1, hW1⟩ : ∃ W, w.alloc (.cells #[.int .i64 cl, .int .i64 cb] 43) = W := ⟨_, rfl⟩
  have HB1 := Lib.hid (show Below w.heap.size w W1 by rw [← hW1]; exact below1 w _)
  have x0 : W1.cell? ⟨xb, 0, none⟩ = some (.int .i64 cl) := by rw [← hW1, ← hxb, sNew]; rfl
  have x1 : W1.cell? ⟨xb, 1, none⟩ = some (.int .i64 cb) := by rw [← hW1, ← hxb, sNew]; rfl
  have hlx := World.block_lt_of_cell? _ _ x0
  have X := Lib.hid (fun W (hq : Below W1.heap.size W1 W) => show W.cell? ⟨xb, 0, none⟩ = some (.int .i64 cl) ∧ W.cell? ⟨xb, 1, none⟩ = some (.int .i64 cb) from ⟨(hq.cell hlx).trans x0, (hq.cell (p := ⟨xb, 1, none⟩) hlx).trans x1⟩)
  have BW := Lib.hid (fun W (hq : Below W1.heap.size W1 W) => HB1.out.trans (hq.mono HB1.out.size))
  obtain ⟨R, hR⟩ : ∃ R, (decide (goodC ⟨cl, cb⟩) && gHs hs) = R := ⟨_, rfl⟩
  have HR := Lib.hid hR
  rw [hR] at CAN
  clear h hA hl hR hlx
  go_enter Try.func27, Try.ntmps27
  go_wp2_with fail
  try rw [hW1]
  clear hW1
  refine (CAN.out _ HB1.out).mono ?_
  rintro e w1 ⟨rfl, hb⟩
  have Q1 := Lib.hid hb
  clear hb CAN x0 x1
  cases R with
  | false =>
    obtain ⟨rfl, rfl⟩ := HA.out.bad HR.out
    obtain rfl : 0 = m := HM.out
    clear HA CF CF1 X
    go_wp2_with fail
    refine bodyPost_ret (results_tmp2 rfl _ _ _) rfl ?_
    exact ⟨_, 0, rfl, HEMP.out _ (BW.out _ Q1.out), by first | exact (BW.out _ Q1.out).alloc (BW.out _ Q1.out).size _ | (rw [← hxb]; exact (BW.out _ Q1.out).alloc (BW.out _ Q1.out).size _)⟩
  | true =>
    obtain ⟨hc, hg⟩ := HGD.out HR.out
    have HANO := Lib.hid (HA.out.no hc hg)
    have HAYES := Lib.hid (fun l b o => HA.out.yes l b o hc hg)
    have CFk := Lib.hid (CF.out hc hg)
    have CF1k := Lib.hid (CF1.out hc hg)
    have hn4 : n ≤ 4 := by rw [← HH.out.len]; exact hg.1
    have O2 := Lib.hid (World.ownsRow_made (size := 1) (e := 3) w1 #[] 0 (base := W1.heap.size) Q1.out.size (by unfold maxLen; omega) rfl)
    have Q2 := Lib.hid (Q1.out.alloc Q1.out.size (.cells #[] 3))
    have hq1 := Q1.out.size
    rw [HH.out.len] at HANO HAYES
    clear HA CF CF1 HGD hc hg
    go_wp2_with fail
    go_loopw [6, 7, 8, 19] (fun v p q i wr => ∃ (k l b g0 cp : Nat) (o : List Int), k ≤ n ∧ i = .int .i64 k ∧ p = .int .i64 l ∧ q = .int .i64 b ∧ Hid (lioN ⟨cl, cb⟩ hs k = some (l, b, o)) ∧ v = .slice (some ⟨g0, 0, none⟩) k cp ∧ W1.heap.size ≤ g0 ∧ wr.ownsRow W1.heap.size 3 1 (.slice (some ⟨g0, 0, none⟩) k cp) k (o.map (.int .i64)) ∧ Below W1.heap.size W1 wr) (fun _ _ _ i _ => n - (intOf i).toNat)
    case atStart => exact ⟨0, 0, 0, _, 0, [], Nat.zero_le _, rfl, rfl, rfl, Lib.hid rfl, rfl, hq1, O2.out, Q2.out⟩
    case round =>
      obtain ⟨k, l, b, g0, cp, o, hk, rfl, rfl, rfl, hlio, rfl, hg0, hown, hq⟩ := hrel
      by_cases hlt : k < n
      · have hkh : k < hs.length := by rw [HH.out.len]; exact hlt
        obtain ⟨aH, rfl, -, HV⟩ := (HH.out.below (BW.out _ hq) HH.out.low).has.Hull hkh
        obtain ⟨hlk, hbk, hol⟩ := lioN_bd hlio.out
        have C1 := Lib.hid (CF1k.out k hlt)
        have C2 := Lib.hid (CFk.out aH rfl b k hbk hlt)
        obtain ⟨F1, hF1⟩ : ∃ F, fits ⟨cl, cb⟩ [hs.getD k noHull] = F := ⟨_, rfl⟩
        obtain ⟨F2, hF2⟩ : ∃ F, fits ⟨cl, cb⟩ ((hs.take (k + 1)).drop b) = F := ⟨_, rfl⟩
        have H1 := Lib.hid hF1
        have H2 := Lib.hid hF2
        rw [hF1] at C1
        rw [hF2] at C2
        obtain ⟨VV, hVV⟩ : ∃ V, hs.getD k noHull = V := ⟨_, rfl⟩
        rw [hVV] at HV C1 H1
        have HVV := Lib.hid hVV
        obtain ⟨hd, hl, hbb⟩ := VV
        obtain ⟨e0, e1, e2⟩ := HV
        dsimp only at e0 e1 e2
        have Q := Lib.hid hq
        have O := Lib.hid hown
        have hcb2 : ¬ c = b := by omega
        have hi2 : (k : Int) + 1 ≤ (c : Int) := by omega
        have hi3 : (b : Int) ≤ (k : Int) + 1 := by omega
        have hi4 : (0 : Int) ≤ (k : Int) := by omega
        have hi5 : (0 : Int) ≤ (b : Int) := by omega
        have hi6 : (k : Int) < (n : Int) := by omega
        have Q5 := Lib.hid (hq.alloc hq.size (.cells #[.int .i64 hd, .int .i64 hl, .int .i64 hbb] 51))
        have O5 := Lib.hid (hown.alloc (.cells #[.int .i64 hd, .int .i64 hl, .int .i64 hbb] 51))
        obtain ⟨x0, x1⟩ := X.out _ Q5.out
        clear hF1 hF2 hq hown CFk CF1k hVV
        go_wp2_with fail
        have HV6 := Lib.hid (show IsHulls ((wr.alloc (.cells #[.int .i64 hd, .int .i64 hl, .int .i64 hbb] 51)).alloc (.cells #[.int .i64 hd, .int .i64 hl, .int .i64 hbb] 51)) ((wr.alloc (.cells #[.int .i64 hd, .int .i64 hl, .int .i64 hbb] 51)).alloc (.cells #[.int .i64 hd, .int .i64 hl, .int .i64 hbb] 51)).heap.size (some ⟨wr.heap.size + 1, 0, none⟩) 1 [⟨hd, hl, hbb⟩] by
          refine ⟨rfl, Nat.le_refl _, ?_⟩
          intro j u hu
          refine ⟨_, rfl, by simp, ?_⟩
          have := cell_three_new (wr.alloc (.cells #[.int .i64 hd, .int .i64 hl, .int .i64 hbb] 51)) (.int .i64 hd) (.int .i64 hl) (.int .i64 hbb) 51 j u hu
          rw [show (wr.alloc (.cells #[.int .i64 hd, .int .i64 hl, .int .i64 hbb] 51)).heap.size = wr.heap.size + 1 by simp] at this
          exact this)
        have Q6 := Lib.hid (Q5.out.alloc Q5.out.size (.cells #[.int .i64 hd, .int .i64 hl, .int .i64 hbb] 51))
        have O6 := Lib.hid (O5.out.alloc (.cells #[.int .i64 hd, .int .i64 hl, .int .i64 hbb] 51))
        refine (C1.out _ _ HV6.out).mono ?_
        rintro e w7 ⟨rfl, hb⟩
        have Q7 := Lib.hid (Q6.out.trans (hb.mono Q6.out.size))
        have O7 := Lib.hid (own_below O6.out hb)
        clear hb C1 HV6 Q5 O5 Q6 O6 e0 e1 e2 x0 x1
        cases F1 with
        | false =>
          obtain ⟨rfl, rfl⟩ := HANO.out (by have := lio_fail1 hlio.out (by rw [HVV.out]; exact H1.out) hkh; rwa [HH.out.len] at this)
          obtain rfl : 0 = m := HM.out
          clear HANO HAYES C2 H1 H2
          go_wp2_with fail
          refine bodyPost_ret (results_tmp2 rfl _ _ _) rfl ?_
          exact ⟨_, 0, rfl, HEMP.out _ (BW.out _ Q7.out), by first | exact (BW.out _ Q7.out).alloc (BW.out _ Q7.out).size _ | (rw [← hxb]; exact (BW.out _ Q7.out).alloc (BW.out _ Q7.out).size _)⟩
        | true =>
          obtain ⟨x0, x1⟩ := X.out _ Q7.out
          have X0 := fun (d : Nat) (os : Array Obj) => cell_regrown x0 d os
          have X1 := fun (d : Nat) (os : Array Obj) => cell_regrown x1 d os
          have cM := fun (dr : Nat) (os : Array Obj) => Calls.regrown_of (w := w7) (d := dr) (os := os) (C2.out _ ((BW.out _ Q7.out).trans ((below_regrown w7 dr os).mono (BW.out _ Q7.out).size)))
          clear x0 x1 C2 HANO
          go_wp2
          refine wp_region_quiet_below (by kernel_rfl) (by kernel_rfl) ?_
          repeat (go_big_quiet_step (first | exact cM _ _))
          refine wpQuiet_nil ?_
          intro _ hw'
          obtain ⟨⟨dq, osq⟩, hw''⟩ := hw'
          subst hw''
          have Q4 := Lib.hid (Q7.out.trans ((below_regrown w7 dq osq).mono Q7.out.size))
          obtain ⟨W4, hW4⟩ : ∃ W, grow (redrawn w7 dq) osq = W := ⟨_, rfl⟩
          have hb4 := below_regrown w7 dq osq
          rw [hW4] at Q4 hb4
          have O4 := Lib.hid (own_below O7.out hb4)
          have Q4s := Q4.out.size
          simp only [hW4]
          clear hW4 X0 X1 cM hb4
          have H1' : Hid (fits ⟨cl, cb⟩ [hs.getD k noHull] = true) := Lib.hid (by rw [HVV.out]; exact H1.out)
          cases F2 with
          | true =>
            have HN := Lib.hid (lio_same hlio.out H1'.out H2.out)
            clear H1 H2 H1' HVV
            go_wp2_with (at_builtin; refine wpList_append_own _ rfl (.tmp 41) (.tmp 43) 25 rfl W1.heap.size 3 i0 (.int .i64 0) 1 8 Try.underlying25 hi hz0 hz1 hz2 rfl (by decide) (.slice (some ⟨g0, 0, none⟩) (k) cp) (k) _ rfl (O4.out.alloc _) ⟨W4.heap.size, 0, none⟩ 1 1 [.int .i64 (l : Int)] rfl rfl (cell_one_new _ _ _) (by simp [Value.oneCell']) (by unfold maxLen; omega) (by omega) (by have := (Q4.out).size; simp; omega) ?_; intro v1 w1 hown1 hgrow1 hnil1; obtain ⟨g1, c1, rfl, hg1⟩ := own_some hown1 (fun e => nomatch (hnil1.1 e).1); have hb1 := ((Q4.out).alloc (Q4.out).size (.cells #[.int .i64 (l : Int)] 3)).grown hgrow1 (by have := (Q4.out).size; simp; omega) (fun q hq => by cases hq; assumption); clear hnil1 hgrow1 )
            go_roundw
            case rel => exact ⟨k + 1, l, b, g1, c1, o ++ [(l : Int)], by omega, by go_num, rfl, rfl, HN, rfl, hg1, by rw [List.map_append]; exact hown1, hb1⟩
            case measure => simp [intOf]; omega
          | false =>
            have HN := Lib.hid (lio_next hlio.out H1'.out H2.out)
            clear H1 H2 H1' HVV
            go_wp2_with (at_builtin; refine wpList_append_own _ rfl (.tmp 41) (.tmp 43) 25 rfl W1.heap.size 3 i0 (.int .i64 0) 1 8 Try.underlying25 hi hz0 hz1 hz2 rfl (by decide) (.slice (some ⟨g0, 0, none⟩) (k) cp) (k) _ rfl (O4.out.alloc _) ⟨W4.heap.size, 0, none⟩ 1 1 [.int .i64 ((l : Int) + 1)] rfl rfl (cell_one_new _ _ _) (by simp [Value.oneCell']) (by unfold maxLen; omega) (by omega) (by have := (Q4.out).size; simp; omega) ?_; intro v1 w1 hown1 hgrow1 hnil1; obtain ⟨g1, c1, rfl, hg1⟩ := own_some hown1 (fun e => nomatch (hnil1.1 e).1); have hb1 := ((Q4.out).alloc (Q4.out).size (.cells #[.int .i64 ((l : Int) + 1)] 3)).grown hgrow1 (by have := (Q4.out).size; simp; omega) (fun q hq => by cases hq; assumption); clear hnil1 hgrow1 )
            go_roundw
            case rel => exact ⟨k + 1, l + 1, k, g1, c1, o ++ [((l + 1 : Nat) : Int)], by omega, by go_num, by go_num, rfl, HN, rfl, hg1, by rw [List.map_append]; exact hown1, hb1⟩
            case measure => simp [intOf]; omega
      · obtain rfl : k = n := by omega
        obtain ⟨hL, rfl⟩ := HAYES.out l b o hlio.out
        obtain rfl : k = m := by rw [← HM.out, hL]; exact ((lioN_bd hlio.out).2.2).symm
        have O5 := Lib.hid (own_low hown HB1.out.size)
        have Q := Lib.hid hq
        subst hL
        clear HANO HAYES CFk CF1k hown hq
        go_wp2_with fail
        refine bodyPost_ret (results_tmp2 rfl _ _ _) rfl ?_
        exact ⟨g0, cp, rfl, O5.out, by first | exact BW.out _ Q.out | (rw [← hxb]; exact BW.out _ Q.out)⟩
end Go.Proofs.Ytkdolpgnaabdaab
