/- Chapter 4: ShiftSpots of the program. -/
import Derived.Test.YtkdolpgnaabdaabChW
import Derived.Test.YtkdolpgnaabdaabChE
import Derived.Lib.LazyBuf
namespace Go.Proofs.Ytkdolpgnaabdaab
open Go.RowKit Go.PlainAid Go.Sort
set_option linter.unusedVariables false
set_option linter.unusedSimpArgs false

theorem flatSpot_oneX : ∀ (vs : List TSpot), ∀ u ∈ flatSpot vs, u.oneCell' = true
  | [], u, h => by simp [flatSpot] at h
  | v :: t, u, h => by
    simp only [flatSpot, List.mem_cons] at h
    rcases h with rfl | rfl | h
    · rfl
    · rfl
    · exact flatSpot_oneX t u h
set_option maxRecDepth 100000 in
set_option maxHeartbeats 1000000 in
theorem cloneS_any (a : Addr) (n c B : Nat) (vs : List TSpot) (w : World) (hn : vs.length = n) (hm : n ≤ 1000) (hB : B ≤ w.heap.size) (h : Has w B (some a) (flatSpot vs)) :
    Calls Try.prog 72 #[.slice (some a) n c] w fun e w' => ∃ g c', e = .returned (.slice (some ⟨g, 0, none⟩) n c') ∧ n ≤ c' ∧ w.heap.size ≤ g ∧ w'.ownsRow w.heap.size 93 2 (.slice (some ⟨g, 0, none⟩) n c') n (flatSpot vs) ∧ Below w.heap.size w w' := by
  obtain ⟨i0, hi, hz0, hz1, hz2⟩ := info_parts Try.infoSpot'
  have hfl : (flatSpot vs).length = n * 2 := by rw [flatSpot_len, hn]; omega
  have HN : Hid (∀ j u, (flatSpot vs)[j]? = some u → (w.alloc (.cells #[] 93)).cell? (a.add j) = some u) := Lib.hid (fun j u hu => by
    obtain ⟨a', e, hb, hc⟩ := (h.below ((Below.refl B w).alloc hB (.cells #[] 93))) j u hu
    injection e with e
    subst e
    exact hc)
  have HO : Hid (∀ u ∈ flatSpot vs, u.oneCell' = true) := Lib.hid (flatSpot_oneX vs)
  have HR := Lib.hid (World.ownsRow_made (size := 2) (e := 93) w #[] 0 (Nat.le_refl _) (by unfold maxLen; omega) rfl)
  have heq := run_eql_slice_nil (P := Try.prog) w 52 93 (some a) n c Try.underlying52
  rw [Option.isNone_some] at heq
  generalize flatSpot vs = xs at hfl HN HO ⊢
  clear h hn
  go_enter Try.func72, Try.ntmps72
  go_wp2_with (at_builtin; refine wpList_append_own _ rfl (.tmp 5) (.tmp 6) 52 rfl w.heap.size 93 i0 (.agg #[.int .i64 0, .int .i64 0]) 2 16 Try.underlying52 hi hz0 hz1 hz2 rfl (by decide) (.slice (some ⟨w.heap.size, 0, none⟩) 0 0) 0 [] rfl HR.out a n c xs rfl hfl HN.out HO.out (by unfold maxLen; omega) (by omega) (by simp) ?_; intro v1 w1 hown1 hgrow1 hnil1; obtain ⟨g1, c1, rfl, hg1⟩ := own_some hown1 (fun e => nomatch (hnil1.1 e).1); have HB1 := Lib.hid (((Below.refl w.heap.size w).alloc (Nat.le_refl _) (.cells #[] 93)).grown hgrow1 (by simp) (fun q hq => by cases hq; exact Nat.le_refl _)); rw [Nat.zero_add, List.nil_append] at hown1; have HOWN := Lib.hid hown1; clear hown1 hgrow1 hnil1)
  have hcc : n ≤ c1 := by
    rcases HOWN.out.2 with ⟨e, -⟩ | ⟨g, cap, cur, e, -, -, h1, -⟩
    · cases e
    · injection e with e1 e2 e3; omega
  go_ret
  exact ⟨g1, c1, by simp, hcc, hg1, HOWN.out, HB1.out⟩

/-- The first k spots shifted. -/
def mixS (b : Int) (ss : List TSpot) (k : Nat) : List TSpot := shiftBy b (ss.take k) ++ ss.drop k
theorem mixS_len (b : Int) (ss : List TSpot) (k : Nat) : (mixS b ss k).length = ss.length := by
  unfold mixS
  rw [List.length_append, shiftBy_len, List.length_take, List.length_drop]
  omega
theorem mixS_at {b : Int} {ss : List TSpot} {k : Nat} (hk : k < ss.length) : (mixS b ss k)[k]'(by rw [mixS_len]; exact hk) = ss.getD k noSpot := by
  have h : (mixS b ss k)[k]? = some (ss.getD k noSpot) := by
    unfold mixS
    rw [List.getElem?_append_right (by rw [shiftBy_len, List.length_take]; omega), shiftBy_len, List.length_take, getSpot hk, List.getElem?_drop, Nat.min_eq_left (by omega), Nat.sub_self, Nat.add_zero, List.getElem?_eq_getElem hk]
  rw [List.getElem?_eq_getElem (by rw [mixS_len]; exact hk)] at h
  injection h
theorem mixS_next {b : Int} {ss : List TSpot} {k : Nat} (hk : k < ss.length) : mixS b ss (k + 1) = (mixS b ss k).set k ⟨(ss.getD k noSpot).x0 + b, (ss.getD k noSpot).x1⟩ := by
  unfold mixS
  rw [shiftBy_take b ss hk, List.drop_eq_getElem_cons hk, List.set_append_right _ _ (by rw [shiftBy_len, List.length_take]; omega), shiftBy_len, List.length_take, Nat.min_eq_left (by omega), Nat.sub_self, List.set_cons_zero, List.append_assoc]
  rfl
theorem set_self' {l : List Value} {i : Nat} {a : Value} (h : l[i]? = some a) : l.set i a = l := by
  apply List.ext_getElem?
  intro j
  by_cases hj : j = i
  · subst hj
    have := (List.getElem?_eq_some_iff.1 h).1
    rw [List.getElem?_set_self this, h]
  · rw [List.getElem?_set_ne (Ne.symm hj)]
theorem flatMix_next {b : Int} {ss : List TSpot} {k : Nat} (hk : k < ss.length) : flatSpot (mixS b ss (k + 1)) = (flatSpot (mixS b ss k)).set (k * 2) (.int .i64 ((ss.getD k noSpot).x0 + b)) := by
  have hk' : k < (mixS b ss k).length := by rw [mixS_len]; exact hk
  rw [mixS_next hk, flatSpot_set _ _ _ hk']
  obtain ⟨-, h1⟩ := flatSpot_at (mixS b ss k) k hk'
  rw [mixS_at hk] at h1
  exact set_self' (by rw [List.getElem?_set_ne (by omega)]; exact h1)
theorem mixS_zero (b : Int) (ss : List TSpot) : mixS b ss 0 = ss := by simp [mixS, shiftBy]
theorem mixS_all (b : Int) (ss : List TSpot) : mixS b ss ss.length = shiftBy b ss := by simp [mixS]

set_option maxRecDepth 100000 in
set_option maxHeartbeats 2000000 in
theorem shiftI_any {w : World} {B B' : Nat} {A : Option Addr} {a : Addr} {m n : Nat} {hs : List THull} {ss : List TSpot} (cl cb : Int) (c c2 : Nat) (b : Int) (h : IsHulls w B A m hs) (h' : IsSpots w B' (some a) n ss) (hm : m ≤ 1048576) (hm' : n ≤ 1048576) (L : List TSpot) (x : Bool) (hA : ShA ⟨cl, cb⟩ hs ss b L x) (z : Nat) (hl : L.length = z) :
    Calls Try.prog 32 #[.agg #[.int .i64 cl, .int .i64 cb], .slice A m c, .slice (some a) n c2, .int .i64 b] w fun e w' => ∃ g c', e = .returned (.tuple #[.slice (some ⟨g, 0, none⟩) z c', .bool x]) ∧
      w'.ownsRow w.heap.size 93 2 (.slice (some ⟨g, 0, none⟩) z c') z (flatSpot L) ∧ Below w.heap.size w w' := by
  have CA := Lib.hid (fun W (hb : Below w.heap.size w W) => isPacking_any cl cb c c2 (h.below hb h.low) (h'.below hb h'.low) hm hm')
  have CR := Lib.hid (fun W => inRange_any b (-6) 6 W)
  have CP := Lib.hid (fun W (hb : Below w.heap.size w W) g c1 (hW : IsSpots W W.heap.size (some ⟨g, 0, none⟩) n (shiftBy b ss)) => isPacking_any cl cb c c1 (h.below hb h.low) hW hm hm')
  have CL := Lib.hid (fun (hn : n ≤ 1000) W (hb : Below w.heap.size w W) => cloneS_any a n c2 W.heap.size ss W h'.len hn (Nat.le_refl _) (((h'.below hb h'.low).all).has))
  have HSL := Lib.hid h'.len
  have HHL := Lib.hid h.len
  have HA := Lib.hid hA
  have HM := Lib.hid hl
  have HPI := Lib.hid (fun g => (gP_iff ⟨cl, cb⟩ hs ss).1 g)
  have HEMP := Lib.hid (fun (W : World) (hb : Below w.heap.size w W) => (World.ownsRow_made (size := 2) (e := 93) W #[] 0 hb.size (by unfold maxLen; omega) rfl))
  obtain ⟨xb, hxb⟩ : ∃ x, w.heap.size = x := ⟨_, rfl⟩
  obtain ⟨W1, hW1⟩ : ∃ W, w.alloc (.cells #[.int .i64 cl, .int .i64 cb] 43) = W := ⟨_, rfl⟩
  have HB1 := Lib.hid (show Below w.heap.size w W1 by rw [← hW1]; exact below1 w _)
  have x0 : W1.cell? ⟨xb, 0, none⟩ = some (.int .i64 cl) := by rw [← hW1, ← hxb, sNew]; rfl
  have x1 : W1.cell? ⟨xb, 1, none⟩ = some (.int .i64 cb) := by rw [← hW1, ← hxb, sNew]; rfl
  have hlx := World.block_lt_of_cell? _ _ x0
  have X := Lib.hid (fun W (hq : Below W1.heap.size W1 W) => show W.cell? ⟨xb, 0, none⟩ = some (.int .i64 cl) ∧ W.cell? ⟨xb, 1, none⟩ = some (.int .i64 cb) from ⟨(hq.cell hlx).trans x0, (hq.cell (p := ⟨xb, 1, none⟩) hlx).trans x1⟩)
  have BW := Lib.hid (fun W (hq : Below W1.heap.size W1 W) => HB1.out.trans (hq.mono HB1.out.size))
  obtain ⟨R, hR⟩ : ∃ R, gP ⟨cl, cb⟩ hs ss = R := ⟨_, rfl⟩
  have HR := Lib.hid hR
  rw [hR] at CA
  clear h h' hA hl hR hlx
  go_enter Try.func32, Try.ntmps32
  go_wp2_with fail
  try rw [hW1]
  clear hW1
  refine (CA.out _ HB1.out).mono ?_
  rintro e w1 ⟨rfl, hb⟩
  have Q1 := Lib.hid hb
  clear hb CA x0 x1
  cases R with
  | false =>
    obtain ⟨rfl, rfl⟩ := HA.out.bad (by rw [HR.out]; rfl)
    obtain rfl : 0 = z := HM.out
    clear HA CR CP X HPI CL
    go_wp2_with fail
    refine bodyPost_ret (results_tmp2 rfl _ _ _) rfl ?_
    exact ⟨_, 0, rfl, by first | exact HEMP.out _ (BW.out _ Q1.out) | (rw [← hxb]; exact HEMP.out _ (BW.out _ Q1.out)), by first | exact (BW.out _ Q1.out).alloc (BW.out _ Q1.out).size _ | (rw [← hxb]; exact (BW.out _ Q1.out).alloc (BW.out _ Q1.out).size _)⟩
  | true =>
    go_wp2_with fail
    refine (CR.out _).mono ?_
    rintro e w2 ⟨rfl, rfl⟩
    clear CR
    by_cases hbb : -6 ≤ b ∧ b ≤ 6
    · rw [decide_eq_true hbb]
      have HP := Lib.hid (HPI.out HR.out)
      have hn4 : n ≤ 4 := by have := HP.out.2.1.1; rw [← HP.out.2.2.1, HSL.out] at this; exact this
      have CLk := Lib.hid (CL.out (by omega))
      have HANO := Lib.hid (HA.out.no HR.out hbb)
      have HAYES := Lib.hid (HA.out.yes HR.out hbb)
      have HIN := Lib.hid (fun k (hk : k < ss.length) => inside_bd HP.out.1 ((HP.out.2.1.2 k (by rw [← HP.out.2.2.1]; exact hk)).1) (HP.out.2.2.2 k hk).1)
      have HPS := gP_shift b HR.out
      obtain ⟨PK, hPK⟩ : ∃ r, gPk ⟨cl, cb⟩ hs (shiftBy b ss) = r := ⟨_, rfl⟩
      rw [hPK] at HPS HANO HAYES
      rw [HPS] at CP
      clear HA HPI HR hPK HPS CL
      go_wp2_with fail
      refine (CLk.out _ (BW.out _ Q1.out)).mono ?_
      rintro e w3 ⟨g0, cp, rfl, hncp, hg0, hown, hb⟩
      have hQ1 := Q1.out.size
      have Q3 := Lib.hid (Q1.out.trans (hb.mono hQ1))
      have O3 := Lib.hid (own_low hown hQ1)
      have hgw : W1.heap.size ≤ g0 := Nat.le_trans hQ1 hg0
      have HO3 : Hid (w3.ownsRow W1.heap.size 93 2 (.slice (some ⟨g0, 0, none⟩) n cp) n (flatSpot (mixS b ss 0))) := Lib.hid (by rw [mixS_zero]; exact O3.out)
      clear hb hown CLk O3
      go_wp2_with fail
      go_loopw [27] (fun i wr => ∃ k : Nat, k ≤ n ∧ i = .int .i64 k ∧ wr.ownsRow W1.heap.size 93 2 (.slice (some ⟨g0, 0, none⟩) n cp) n (flatSpot (mixS b ss k)) ∧ Below W1.heap.size W1 wr) (fun i _ => n - (intOf i).toNat)
      case atStart => exact ⟨0, Nat.zero_le _, rfl, HO3.out, Q3.out⟩
      case round =>
        clear HO3 Q3
        obtain ⟨k, hk, rfl, hown, hq⟩ := hrel
        by_cases hlt : k < n
        · have hks : k < ss.length := by rw [HSL.out]; exact hlt
          have hbd := HIN.out k hks
          have HN := Lib.hid (flatMix_next (b := b) hks)
          have hml : (mixS b ss k).length = n := by rw [mixS_len, HSL.out]
          obtain ⟨p0, -⟩ := flatSpot_at (mixS b ss k) k (by omega)
          rw [mixS_at hks] at p0
          have c0 := (hown.cellAt (k * 2) (by omega)).trans p0
          have r0 := hown.frozenAt (k * 2)
          obtain ⟨s0, hs0⟩ : ∃ v, (ss.getD k noSpot).x0 = v := ⟨_, rfl⟩
          rw [hs0] at c0 hbd HN
          have hk0 : (0 : Int) ≤ (k : Int) := by omega
          have hk1 : (k : Int) < (n : Int) := by omega
          have s1 := Lib.hid (hown.stored (k * 2) (.int .i64 (s0 + b)))
          have Q4 := Lib.hid (hq.setCell (p := ⟨g0, k * 2, none⟩) hgw (.int .i64 (s0 + b)))
          clear hown hq p0 hs0 hml
          go_wp2_with fail
          go_roundw
          case rel => exact ⟨k + 1, by omega, by go_num, by rw [HN.out]; exact s1.out.1, Q4.out⟩
          case measure => simp [intOf]; omega
        · obtain rfl : k = n := by omega
          have HOk : Hid (wr.ownsRow W1.heap.size 93 2 (.slice (some ⟨g0, 0, none⟩) k cp) k (flatSpot (shiftBy b ss))) := Lib.hid (by rw [← mixS_all, HSL.out]; exact hown)
          obtain ⟨x0, x1⟩ := X.out _ hq
          have Q := Lib.hid hq
          have CPw := Lib.hid (CP.out wr (BW.out _ hq) g0 cp (own_Spots HOk.out))
          clear hown hq CP HIN
          go_wp2_with fail
          refine CPw.out.mono ?_
          rintro e w4 ⟨rfl, hb⟩
          have Q4 := Lib.hid (Q.out.trans (hb.mono Q.out.size))
          have O4 := Lib.hid (own_low (own_below HOk.out hb) HB1.out.size)
          clear hb CPw x0 x1 Q HOk
          cases PK with
          | false =>
            obtain ⟨rfl, rfl⟩ := HANO.out rfl
            obtain rfl : 0 = z := HM.out
            clear HANO HAYES
            go_wp2_with fail
            refine bodyPost_ret (results_tmp2 rfl _ _ _) rfl ?_
            exact ⟨_, 0, rfl, by first | exact HEMP.out _ (BW.out _ Q4.out) | (rw [← hxb]; exact HEMP.out _ (BW.out _ Q4.out)), by first | exact (BW.out _ Q4.out).alloc (BW.out _ Q4.out).size _ | (rw [← hxb]; exact (BW.out _ Q4.out).alloc (BW.out _ Q4.out).size _)⟩
          | true =>
            obtain ⟨hL, rfl⟩ := HAYES.out rfl
            obtain rfl : k = z := by rw [← HM.out, hL, shiftBy_len, HSL.out]
            have HL := Lib.hid hL
            clear HANO HAYES hL
            obtain rfl := HL.out
            go_wp2_with fail
            refine bodyPost_ret (results_tmp2 rfl _ _ _) rfl ?_
            exact ⟨g0, cp, rfl, by first | exact O4.out | (rw [← hxb]; exact O4.out), by first | exact BW.out _ Q4.out | (rw [← hxb]; exact BW.out _ Q4.out)⟩
    · rw [decide_eq_false hbb]
      obtain ⟨rfl, rfl⟩ := HA.out.bad (by rw [decide_eq_false hbb, Bool.and_false])
      obtain rfl : 0 = z := HM.out
      clear HA CP X HPI hbb CL
      go_wp2_with fail
      refine bodyPost_ret (results_tmp2 rfl _ _ _) rfl ?_
      exact ⟨_, 0, rfl, by first | exact HEMP.out _ (BW.out _ Q1.out) | (rw [← hxb]; exact HEMP.out _ (BW.out _ Q1.out)), by first | exact (BW.out _ Q1.out).alloc (BW.out _ Q1.out).size _ | (rw [← hxb]; exact (BW.out _ Q1.out).alloc (BW.out _ Q1.out).size _)⟩
end Go.Proofs.Ytkdolpgnaabdaab
