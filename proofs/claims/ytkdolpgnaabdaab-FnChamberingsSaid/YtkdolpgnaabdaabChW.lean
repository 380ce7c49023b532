/- Chapter 4: ShiftSpots of the model. -/
import Derived.Test.YtkdolpgnaabdaabChG
import Derived.Test.YtkdolpgnaabdaabInv
import Derived.Test.YtkdolpgnaabdaabChK
namespace Go.Proofs.Ytkdolpgnaabdaab
open Go.RowKit Go.PlainAid Go.Sort
set_option linter.unusedVariables false
set_option linter.unusedSimpArgs false

def shiftBy (b : Int) (ss : List TSpot) : List TSpot := ss.map fun s => ⟨s.x0 + b, s.x1⟩
theorem shiftBy_len (b : Int) (ss : List TSpot) : (shiftBy b ss).length = ss.length := by simp [shiftBy]
theorem shiftBy_take (b : Int) (ss : List TSpot) {k : Nat} (hk : k < ss.length) : shiftBy b (ss.take (k + 1)) = shiftBy b (ss.take k) ++ [⟨(ss.getD k noSpot).x0 + b, (ss.getD k noSpot).x1⟩] := by
  rw [List.take_succ_eq_append_getElem hk, getSpot hk]
  show List.map _ (ss.take k ++ [ss[k]]) = _
  rw [List.map_append]
  rfl
/-- What ShiftSpots answers. -/
structure ShA (c : TChamber) (hs : List THull) (ss : List TSpot) (b : Int) (L : List TSpot) (x : Bool) : Prop where
  bad : (gP c hs ss && decide (-6 ≤ b ∧ b ≤ 6)) = false → L = [] ∧ x = false
  no : gP c hs ss = true → -6 ≤ b ∧ b ≤ 6 → gPk c hs (shiftBy b ss) = false → L = [] ∧ x = false
  yes : gP c hs ss = true → -6 ≤ b ∧ b ≤ 6 → gPk c hs (shiftBy b ss) = true → L = shiftBy b ss ∧ x = true
theorem shA_ex (c : TChamber) (hs : List THull) (ss : List TSpot) (b : Int) : ∃ L x, ShA c hs ss b L x := by
  by_cases h : (gP c hs ss && decide (-6 ≤ b ∧ b ≤ 6)) = false
  · exact ⟨[], false, fun _ => ⟨rfl, rfl⟩, fun _ _ _ => ⟨rfl, rfl⟩, fun h1 h2 _ => by rw [h1, decide_eq_true h2] at h; cases h⟩
  · cases e : gPk c hs (shiftBy b ss) with
    | false => exact ⟨[], false, fun g => absurd g h, fun _ _ _ => ⟨rfl, rfl⟩, fun _ _ g => by rw [e] at g; cases g⟩
    | true => exact ⟨_, true, fun g => absurd g h, fun _ _ g => (by rw [e] at g; cases g), fun _ _ _ => ⟨rfl, rfl⟩⟩
theorem ShA.len {c : TChamber} {hs : List THull} {ss : List TSpot} {b : Int} {L : List TSpot} {x : Bool} (h : ShA c hs ss b L x) : L.length ≤ 4 := by
  by_cases g : (gP c hs ss && decide (-6 ≤ b ∧ b ≤ 6)) = false
  · rw [(h.bad g).1]; simp
  · have g' : (gP c hs ss && decide (-6 ≤ b ∧ b ≤ 6)) = true := by simpa using g
    rw [Bool.and_eq_true] at g'
    obtain ⟨h1, h2⟩ := g'
    have hb := of_decide_eq_true h2
    cases e : gPk c hs (shiftBy b ss) with
    | false => rw [(h.no h1 hb e).1]; simp
    | true =>
      obtain ⟨-, hg, hl, -⟩ := (gP_iff c hs ss).1 h1
      rw [(h.yes h1 hb e).1, shiftBy_len, hl]
      exact hg.1
theorem gP_shift {c : TChamber} {hs : List THull} {ss : List TSpot} (b : Int) (h : gP c hs ss = true) : gP c hs (shiftBy b ss) = gPk c hs (shiftBy b ss) := by
  obtain ⟨hc, hg, hl, -⟩ := (gP_iff c hs ss).1 h
  rw [gP_eq, decide_eq_true hc, gHs_yes hg, decide_eq_true (by rw [shiftBy_len]; exact hl)]
  rfl

set_option maxRecDepth 100000 in
set_option maxHeartbeats 2000000 in
theorem shiftS_any {w : World} {B B' : Nat} {A A' : Option Addr} {m n : Nat} {hs : List THull} {ss : List TSpot} (cl cb : Int) (c c2 : Nat) (b : Int) (h : IsHulls w B A m hs) (h' : IsSpots w B' A' n ss) (hm : m ≤ 1048576) (hm' : n ≤ 1048576) (L : List TSpot) (x : Bool) (hA : ShA ⟨cl, cb⟩ hs ss b L x) (z : Nat) (hl : L.length = z) :
    Calls Try.prog 33 #[.agg #[.int .i64 cl, .int .i64 cb], .slice A m c, .slice A' n c2, .int .i64 b] w fun e w' => ∃ g c', e = .returned (.tuple #[.slice (some ⟨g, 0, none⟩) z c', .bool x]) ∧
      w'.ownsRow w.heap.size 93 2 (.slice (some ⟨g, 0, none⟩) z c') z (flatSpot L) ∧ Below w.heap.size w w' := by
  obtain ⟨j0, hj, hy0, hy1, hy2⟩ := info_parts Try.infoSpot'
  have CA := Lib.hid (fun W (hb : Below w.heap.size w W) => l4Asked_any cl cb c c2 (h.below hb h.low) (h'.below hb h'.low) hm hm')
  have CR := Lib.hid (fun W => l1In_any b (-6) 6 W)
  have CP := Lib.hid (fun (hc : goodC ⟨cl, cb⟩) (hg : goodHs hs) (hmn : n = m) W (hb : Below w.heap.size w W) g c1 (hW : IsSpots W W.heap.size (some ⟨g, 0, none⟩) n (shiftBy b ss)) => l4Packing_any cl cb c c1 (h.below hb h.low) hW hc hg (by omega))
  have HS := Lib.hid h'
  have HSL := Lib.hid h'.len
  have HHL := Lib.hid h.len
  have HA := Lib.hid hA
  have HM := Lib.hid hl
  have HPI := Lib.hid (fun g => (gP_iff ⟨cl, cb⟩ hs ss).1 g)
  have HEMP := Lib.hid (fun (W : World) (hb : Below w.heap.size w W) => (World.ownsRow_made (size := 2) (e := 93) W #[] 0 hb.size (by unfold maxLen; omega) rfl))
  obtain ⟨xb, hxb⟩ : ∃ x, w.heap.size = x := ⟨_, rfl⟩
  obtain ⟨W1, hW1⟩ : ∃ W, w.alloc (.cells #[.int .i64 cl, .int .i64 cb] 43) = W := ⟨_, rfl⟩
  have HB1 := Lib.hid (show Below w.heap.size w W1 by rw [← hW1]; exact below1 w _)
  have x0 : W1.cell? ⟨xb, 0, none⟩ = some (.int .i64 cl) := by rw [← hW1, ← hxb, sNew]; rfl
  have x1 : W1.cell? ⟨xb, 1, none⟩ = some (.int .i64 cb) := by rw [← hW1, ← hxb, sNew]; rfl
  have hlx := World.block_lt_of_cell? _ _ x0
  have X := Lib.hid (fun W (hq : Below W1.heap.size W1 W) => show W.cell? ⟨xb, 0, none⟩ = some (.int .i64 cl) ∧ W.cell? ⟨xb, 1, none⟩ = some (.int .i64 cb) from ⟨(hq.cell hlx).trans x0, (hq.cell (p := ⟨xb, 1, none⟩) hlx).trans x1⟩)
  have BW := Lib.hid (fun W (hq : Below W1.heap.size W1 W) => HB1.out.trans (hq.mono HB1.out.size))
  obtain ⟨R, hR⟩ : ∃ R, gP ⟨cl, cb⟩ hs ss = R := ⟨_, rfl⟩
  have HR := Lib.hid hR
  rw [hR] at CA
  clear h h' hA hl hR hlx
  go_enter Try.func33, Try.ntmps33
  go_wp2_with fail
  try rw [hW1]
  clear hW1
  refine (CA.out _ HB1.out).mono ?_
  rintro e w1 ⟨rfl, hb⟩
  have Q1 := Lib.hid hb
  clear hb CA x0 x1
  cases R with
  | false =>
    obtain ⟨rfl, rfl⟩ := HA.out.bad (by rw [HR.out]; rfl)
    obtain rfl : 0 = z := HM.out
    clear HA CR CP X HPI
    go_wp2_with fail
    refine bodyPost_ret (results_tmp2 rfl _ _ _) rfl ?_
    exact ⟨_, 0, rfl, by first | exact HEMP.out _ (BW.out _ Q1.out) | (rw [← hxb]; exact HEMP.out _ (BW.out _ Q1.out)), by first | exact (BW.out _ Q1.out).alloc (BW.out _ Q1.out).size _ | (rw [← hxb]; exact (BW.out _ Q1.out).alloc (BW.out _ Q1.out).size _)⟩
  | true =>
    go_wp2_with fail
    refine (CR.out _).mono ?_
    rintro e w2 ⟨rfl, rfl⟩
    clear CR
    by_cases hbb : -6 ≤ b ∧ b ≤ 6
    · rw [decide_eq_true hbb]
      have HP := Lib.hid (HPI.out HR.out)
      have hnm : n = m := by have := HP.out.2.2.1; rw [HSL.out, HHL.out] at this; exact this
      subst hnm
      have hn4 : n ≤ 4 := by have := HP.out.2.1.1; rw [HHL.out] at this; exact this
      have CPk := Lib.hid (CP.out HP.out.1 HP.out.2.1 rfl)
      have HANO := Lib.hid (HA.out.no HR.out hbb)
      have HAYES := Lib.hid (HA.out.yes HR.out hbb)
      have HIN := Lib.hid (fun k (hk : k < ss.length) => inside_bd HP.out.1 ((HP.out.2.1.2 k (by rw [← HP.out.2.2.1]; exact hk)).1) (HP.out.2.2.2 k hk).1)
      obtain ⟨PK, hPK⟩ : ∃ r, gPk ⟨cl, cb⟩ hs (shiftBy b ss) = r := ⟨_, rfl⟩
      rw [hPK] at CPk HANO HAYES
      obtain ⟨base, hbase⟩ : ∃ z, w1.heap.size = z := ⟨_, rfl⟩
      have O2 := Lib.hid (World.ownsRow_made (size := 2) (e := 93) w1 #[] 0 (Nat.le_refl _) (by unfold maxLen; omega) rfl)
      have Q2 := Lib.hid ((Below.refl w1.heap.size w1).alloc (Nat.le_refl _) (.cells #[] 93))
      have hQ1 := Q1.out.size
      rw [hbase] at O2 Q2 hQ1
      have BB := Lib.hid (fun W (hq : Below base w1 W) => show Below W1.heap.size W1 W from Q1.out.trans (hq.mono hQ1))
      have HBASE := Lib.hid hbase
      clear HA CP HPI HR hPK
      go_wp2_with fail
      try rw [hbase]
      clear hbase
      go_loopw [10, 11] (fun v i wr => ∃ (k g0 cp : Nat) (T : List TSpot), k ≤ n ∧ i = .int .i64 k ∧ Hid (shiftBy b (ss.take k) = T) ∧ v = .slice (some ⟨g0, 0, none⟩) k cp ∧ base ≤ g0 ∧
        wr.ownsRow base 93 2 (.slice (some ⟨g0, 0, none⟩) k cp) k (flatSpot T) ∧ Below base w1 wr) (fun _ i _ => n - (intOf i).toNat)
      case atStart => exact ⟨0, base, 0, [], Nat.zero_le _, rfl, Lib.hid rfl, rfl, Nat.le_refl _, O2.out, Q2.out⟩
      case round =>
        clear O2 Q2
        obtain ⟨k, g0, cp, T, hk, rfl, hT, rfl, hg0, hown, hq⟩ := hrel
        by_cases hlt : k < n
        · have hks : k < ss.length := by rw [HSL.out]; exact hlt
          obtain ⟨aS, rfl, haB, HW⟩ := (HS.out.below (BW.out _ (BB.out _ hq)) HS.out.low).has.Spot hks
          have hbd := HIN.out k hks
          have HN := Lib.hid (shiftBy_take b ss hks)
          rw [hT.out] at HN
          generalize ss.getD k noSpot = VS at HW hbd HN
          obtain ⟨s0, s1⟩ := VS
          obtain ⟨f0, f1⟩ := HW
          dsimp only at f0 f1 hbd HN
          have hk0 : (0 : Int) ≤ (k : Int) := by omega
          have hk1 : (k : Int) < (n : Int) := by omega
          have Q := Lib.hid hq
          have O := Lib.hid hown
          have hbw : base ≤ wr.heap.size := by have := hq.size; have := HBASE.out; omega
          have lS : (aS.add (k * 2)).block < base := by
            rw [addBlock]
            have := HS.out.low
            have := (BW.out _ Q1.out).size
            have := HBASE.out
            omega
          clear hq hown haB
          go_wp2_with fail
          refine region_inv (by kernel_rfl) (by kernel_rfl) (fun Fl9 ac W => ∃ (x30 x31 x32 x33 x34 x35 x36 x37 x38 x39 x40 x41 x42 x43 x44 x45 x10 : Value), ac = { tmps := #[Value.agg #[Value.int IntKind.i64 cl, Value.int IntKind.i64 cb], Value.slice A n c, Value.slice (some aS) n c2, Value.int IntKind.i64 b, Value.pointer (some ⟨xb, 0, none⟩), undef, undef, undef, Value.slice none 0 0, Value.bool false, x10, Value.int IntKind.i64 (k : Int), Value.agg #[Value.int IntKind.i64 cl, Value.int IntKind.i64 cb], Value.slice A n c, Value.slice (some aS) n c2, Value.bool true, Value.bool false, Value.bool false, Value.int IntKind.i64 b, Value.bool true, Value.bool false, Value.bool false, undef, Value.slice (some ⟨base, 0, none⟩) 0 0, Value.int IntKind.i64 (k : Int), Value.slice (some aS) n c2, Value.int IntKind.i64 (n : Int), Value.bool true, u28, u29, x30, x31, x32, x33, x34, x35, x36, x37, x38, x39, x40, x41, x42, x43, x44, x45, undef, undef, undef, undef, undef, undef, undef], defers := [] } ∧ Below base wr W ∧
                (Fl9 0 = true → x30 = .slice (some ⟨g0, 0, none⟩) k cp) ∧
                (Fl9 1 = true → x31 = .slice (some aS) n c2) ∧
                (Fl9 2 = true → x32 = .int .i64 (k : Int)) ∧
                (Fl9 3 = true → x33 = .pointer (some (aS.add (k * 2)))) ∧
                (Fl9 4 = true → x34 = .pointer (some (aS.add (k * 2)))) ∧
                (Fl9 5 = true → x35 = .int .i64 s0) ∧
                (Fl9 6 = true → x36 = .int .i64 b) ∧
                (Fl9 7 = true → x37 = .int .i64 (s0 + b)) ∧
                (Fl9 8 = true → x38 = .slice (some aS) n c2) ∧
                (Fl9 9 = true → x39 = .int .i64 (k : Int)) ∧
                (Fl9 10 = true → x40 = .pointer (some (aS.add (k * 2)))) ∧
                (Fl9 11 = true → x41 = .pointer (some ⟨(aS.add (k * 2)).block, (aS.add (k * 2)).off + 1, none⟩)) ∧
                (Fl9 12 = true → x42 = .int .i64 s1) ∧
                (Fl9 13 = true → x43 = .agg #[.int .i64 (s0 + b), .int .i64 s1]) ∧
                (Fl9 14 = true → Fl9 15 = false → ∃ g, x44 = .slice (some ⟨g, 0, none⟩) 1 1 ∧ ∀ j u, [Value.int .i64 (s0 + b), .int .i64 s1][j]? = some u → W.cell? ((⟨g, 0, none⟩ : Addr).add j) = some u) ∧
                (Fl9 15 = true → ∃ g c9, x45 = .slice (some ⟨g, 0, none⟩) (k + 1) c9 ∧ base ≤ g ∧ W.ownsRow base 93 2 (.slice (some ⟨g, 0, none⟩) (k + 1) c9) (k + 1) (flatSpot T ++ [.int .i64 (s0 + b), .int .i64 s1])) ∧
                (Fl9 16 = true → ∃ g c9, x10 = .slice (some ⟨g, 0, none⟩) (k + 1) c9 ∧ base ≤ g ∧ W.ownsRow base 93 2 (.slice (some ⟨g, 0, none⟩) (k + 1) c9) (k + 1) (flatSpot T ++ [.int .i64 (s0 + b), .int .i64 s1])) ∧
                (Fl9 15 = true → Fl9 0 = true) ∧
                (Fl9 16 = true → Fl9 15 = true) ∧
                (Fl9 16 = false → x10 = .slice (some ⟨g0, 0, none⟩) k cp) ∧
                (Fl9 15 = false → W.ownsRow base 93 2 (.slice (some ⟨g0, 0, none⟩) k cp) k (flatSpot T))) ?_ ?_ ?_
          · exact ⟨_, _, _, _, _, _, _, _, _, _, _, _, _, _, _, _, _, rfl, (Drawn.one wr 1).below _, (fun q0 => nomatch q0), (fun q0 => nomatch q0), (fun q0 => nomatch q0), (fun q0 => nomatch q0), (fun q0 => nomatch q0), (fun q0 => nomatch q0), (fun q0 => nomatch q0), (fun q0 => nomatch q0), (fun q0 => nomatch q0), (fun q0 => nomatch q0), (fun q0 => nomatch q0), (fun q0 => nomatch q0), (fun q0 => nomatch q0), (fun q0 => nomatch q0), (fun q0 => nomatch q0), (fun q0 => nomatch q0), (fun q0 => nomatch q0), (fun q0 => nomatch q0), (fun q0 => nomatch q0), (fun _ => rfl), (fun _ => (Drawn.one wr 1).own O.out)⟩
          · intro Fl9 ac W i9 o9 hJ ho hL hdep K9 hK
            obtain ⟨x30, x31, x32, x33, x34, x35, x36, x37, x38, x39, x40, x41, x42, x43, x44, x45, x10, rfl, hB, hh0, hh1, hh2, hh3, hh4, hh5, hh6, hh7, hh8, hh9, hh10, hh11, hh12, hh13, hh14, hh15, hh16, hx0, hx1, hx2, hx3⟩ := hJ
            have hi9 : i9 < 17 := by simpa using (Array.getElem?_eq_some_iff.1 ho).1
            have C0 := (hB.cell lS).trans f0
            have C1 := (hB.cell (p := ⟨(aS.add (k * 2)).block, (aS.add (k * 2)).off + 1, none⟩) lS).trans f1
            obtain rfl | rfl | rfl | rfl | rfl | rfl | rfl | rfl | rfl | rfl | rfl | rfl | rfl | rfl | rfl | rfl | rfl : i9 = 0 ∨ i9 = 1 ∨ i9 = 2 ∨ i9 = 3 ∨ i9 = 4 ∨ i9 = 5 ∨ i9 = 6 ∨ i9 = 7 ∨ i9 = 8 ∨ i9 = 9 ∨ i9 = 10 ∨ i9 = 11 ∨ i9 = 12 ∨ i9 = 13 ∨ i9 = 14 ∨ i9 = 15 ∨ i9 = 16 := by omega
            · -- operation 0
              cases ho
              have hx16 : Fl9 16 = false := by
                cases hc16 : Fl9 16 with
                | false => rfl
                | true => exact absurd (hx0 (hx1 hc16)) (by rw [hL]; simp)
              obtain rfl := hx2 hx16
              go_simp
              exact hK _ _ ⟨_, _, _, _, _, _, _, _, _, _, _, _, _, _, _, _, _, rfl, hB, fun _ => rfl, hh1, hh2, hh3, hh4, hh5, hh6, hh7, hh8, hh9, hh10, hh11, hh12, hh13, hh14, hh15, hh16, fun _ => rfl, hx1, hx2, hx3⟩
            · -- operation 1
              cases ho
              go_simp
              exact hK _ _ ⟨_, _, _, _, _, _, _, _, _, _, _, _, _, _, _, _, _, rfl, hB, hh0, fun _ => rfl, hh2, hh3, hh4, hh5, hh6, hh7, hh8, hh9, hh10, hh11, hh12, hh13, hh14, hh15, hh16, hx0, hx1, hx2, hx3⟩
            · -- operation 2
              cases ho
              go_simp
              exact hK _ _ ⟨_, _, _, _, _, _, _, _, _, _, _, _, _, _, _, _, _, rfl, hB, hh0, hh1, fun _ => rfl, hh3, hh4, hh5, hh6, hh7, hh8, hh9, hh10, hh11, hh12, hh13, hh14, hh15, hh16, hx0, hx1, hx2, hx3⟩
            · -- operation 3
              cases ho
              obtain rfl := hh1 (hdep ⟨1, .data⟩ (by simp) rfl)
              obtain rfl := hh2 (hdep ⟨2, .data⟩ (by simp) rfl)
              go_simp
              exact hK _ _ ⟨_, _, _, _, _, _, _, _, _, _, _, _, _, _, _, _, _, rfl, hB, hh0, hh1, hh2, fun _ => rfl, hh4, hh5, hh6, hh7, hh8, hh9, hh10, hh11, hh12, hh13, hh14, hh15, hh16, hx0, hx1, hx2, hx3⟩
            · -- operation 4
              cases ho
              obtain rfl := hh3 (hdep ⟨3, .data⟩ (by simp) rfl)
              go_simp
              exact hK _ _ ⟨_, _, _, _, _, _, _, _, _, _, _, _, _, _, _, _, _, rfl, hB, hh0, hh1, hh2, hh3, fun _ => rfl, hh5, hh6, hh7, hh8, hh9, hh10, hh11, hh12, hh13, hh14, hh15, hh16, hx0, hx1, hx2, hx3⟩
            · -- operation 5
              cases ho
              obtain rfl := hh4 (hdep ⟨4, .data⟩ (by simp) rfl)
              go_simp
              exact hK _ _ ⟨_, _, _, _, _, _, _, _, _, _, _, _, _, _, _, _, _, rfl, hB, hh0, hh1, hh2, hh3, hh4, fun _ => rfl, hh6, hh7, hh8, hh9, hh10, hh11, hh12, hh13, hh14, hh15, hh16, hx0, hx1, hx2, hx3⟩
            · -- operation 6
              cases ho
              go_simp
              exact hK _ _ ⟨_, _, _, _, _, _, _, _, _, _, _, _, _, _, _, _, _, rfl, hB, hh0, hh1, hh2, hh3, hh4, hh5, fun _ => rfl, hh7, hh8, hh9, hh10, hh11, hh12, hh13, hh14, hh15, hh16, hx0, hx1, hx2, hx3⟩
            · -- operation 7
              cases ho
              obtain rfl := hh5 (hdep ⟨5, .data⟩ (by simp) rfl)
              obtain rfl := hh6 (hdep ⟨6, .data⟩ (by simp) rfl)
              go_simp
              rw [show IntKind.i64.wrap (s0 + b) = s0 + b from (by rw [IntKind.wrap_i64]; omega)]
              exact hK _ _ ⟨_, _, _, _, _, _, _, _, _, _, _, _, _, _, _, _, _, rfl, hB, hh0, hh1, hh2, hh3, hh4, hh5, hh6, fun _ => rfl, hh8, hh9, hh10, hh11, hh12, hh13, hh14, hh15, hh16, hx0, hx1, hx2, hx3⟩
            · -- operation 8
              cases ho
              go_simp
              exact hK _ _ ⟨_, _, _, _, _, _, _, _, _, _, _, _, _, _, _, _, _, rfl, hB, hh0, hh1, hh2, hh3, hh4, hh5, hh6, hh7, fun _ => rfl, hh9, hh10, hh11, hh12, hh13, hh14, hh15, hh16, hx0, hx1, hx2, hx3⟩
            · -- operation 9
              cases ho
              go_simp
              exact hK _ _ ⟨_, _, _, _, _, _, _, _, _, _, _, _, _, _, _, _, _, rfl, hB, hh0, hh1, hh2, hh3, hh4, hh5, hh6, hh7, hh8, fun _ => rfl, hh10, hh11, hh12, hh13, hh14, hh15, hh16, hx0, hx1, hx2, hx3⟩
            · -- operation 10
              cases ho
              obtain rfl := hh8 (hdep ⟨8, .data⟩ (by simp) rfl)
              obtain rfl := hh9 (hdep ⟨9, .data⟩ (by simp) rfl)
              go_simp
              exact hK _ _ ⟨_, _, _, _, _, _, _, _, _, _, _, _, _, _, _, _, _, rfl, hB, hh0, hh1, hh2, hh3, hh4, hh5, hh6, hh7, hh8, hh9, fun _ => rfl, hh11, hh12, hh13, hh14, hh15, hh16, hx0, hx1, hx2, hx3⟩
            · -- operation 11
              cases ho
              obtain rfl := hh10 (hdep ⟨10, .data⟩ (by simp) rfl)
              go_simp
              exact hK _ _ ⟨_, _, _, _, _, _, _, _, _, _, _, _, _, _, _, _, _, rfl, hB, hh0, hh1, hh2, hh3, hh4, hh5, hh6, hh7, hh8, hh9, hh10, fun _ => rfl, hh12, hh13, hh14, hh15, hh16, hx0, hx1, hx2, hx3⟩
            · -- operation 12
              cases ho
              obtain rfl := hh11 (hdep ⟨11, .data⟩ (by simp) rfl)
              go_simp
              exact hK _ _ ⟨_, _, _, _, _, _, _, _, _, _, _, _, _, _, _, _, _, rfl, hB, hh0, hh1, hh2, hh3, hh4, hh5, hh6, hh7, hh8, hh9, hh10, hh11, fun _ => rfl, hh13, hh14, hh15, hh16, hx0, hx1, hx2, hx3⟩
            · -- operation 13
              cases ho
              obtain rfl := hh7 (hdep ⟨7, .data⟩ (by simp) rfl)
              obtain rfl := hh12 (hdep ⟨12, .data⟩ (by simp) rfl)
              go_simp
              exact hK _ _ ⟨_, _, _, _, _, _, _, _, _, _, _, _, _, _, _, _, _, rfl, hB, hh0, hh1, hh2, hh3, hh4, hh5, hh6, hh7, hh8, hh9, hh10, hh11, hh12, fun _ => rfl, hh14, hh15, hh16, hx0, hx1, hx2, hx3⟩
            · -- operation 14
              cases ho
              obtain rfl := hh13 (hdep ⟨13, .data⟩ (by simp) rfl)
              go_simp
              exact hK _ _ ⟨_, _, _, _, _, _, _, _, _, _, _, _, _, _, _, _, _, rfl, hB.trans ((Below.alloc (Below.refl W.heap.size W) (Nat.le_refl _) _).mono (Nat.le_trans hbw hB.size)), hh0, hh1, hh2, hh3, hh4, hh5, hh6, hh7, hh8, hh9, hh10, hh11, hh12, hh13, fun _ _ => ⟨_, rfl, cell_two_new W _ _ _⟩, fun q0 => (fun ⟨g, c9, e, h, o⟩ => ⟨g, c9, e, h, own_below o (Below.alloc (Below.refl W.heap.size W) (Nat.le_refl _) _)⟩) (hh15 q0), fun q0 => (fun ⟨g, c9, e, h, o⟩ => ⟨g, c9, e, h, own_below o (Below.alloc (Below.refl W.heap.size W) (Nat.le_refl _) _)⟩) (hh16 q0), hx0, hx1, hx2, fun q0 => (fun o => own_below o (Below.alloc (Below.refl W.heap.size W) (Nat.le_refl _) _)) (hx3 q0)⟩
            · -- operation 15
              cases ho
              have hd0 := hdep ⟨0, .data⟩ (by simp) rfl
              obtain rfl := hh0 hd0
              have hd14 := hdep ⟨14, .data⟩ (by simp) rfl
              obtain ⟨gn, rfl, hnew⟩ := hh14 hd14 hL
              have oe := hx3 hL
              refine step_append rfl (.tmp 30) (.tmp 44) 52 rfl base 93 j0 (.agg #[.int .i64 0, .int .i64 0]) 2 16 Try.underlying52 hj hy0 hy1 hy2 rfl (by decide) _ k _ rfl oe ⟨gn, 0, none⟩ 1 1 [.int .i64 (s0 + b), .int .i64 s1] rfl rfl hnew (by simp [Value.oneCell']) (by unfold maxLen; omega) (by omega) (Nat.le_trans hbw hB.size) (fun e => nomatch e) ?_
              intro g1 cap w9 hown hgr
              exact hK _ _ ⟨_, _, _, _, _, _, _, _, _, _, _, _, _, _, _, _, _, rfl, hB.grown hgr (Nat.le_trans hbw hB.size) (fun q e => (oe.lt q e).1), hh0, hh1, hh2, hh3, hh4, hh5, hh6, hh7, hh8, hh9, hh10, hh11, hh12, hh13, (fun _ q0 => nomatch q0), fun _ => ⟨_, _, rfl, (hown.lt g1 rfl).1, hown⟩, (fun q0 => absurd (hx1 q0) (by rw [hL]; simp)), fun _ => hd0, fun _ => rfl, hx2, (fun q0 => nomatch q0)⟩
            · -- operation 16
              cases ho
              have hd15 := hdep ⟨15, .data⟩ (by simp) rfl
              obtain ⟨g, c9, rfl, hg9, ho9⟩ := hh15 hd15
              obtain rfl := hh0 (hx0 hd15)
              go_simp
              exact hK _ _ ⟨_, _, _, _, _, _, _, _, _, _, _, _, _, _, _, _, _, rfl, hB, hh0, hh1, hh2, hh3, hh4, hh5, hh6, hh7, hh8, hh9, hh10, hh11, hh12, hh13, hh14, hh15, fun _ => ⟨_, _, rfl, hg9, ho9⟩, hx0, fun _ => hd15, (fun q0 => nomatch q0), hx3⟩
          intro Fl9 ac W hJ hall
          obtain ⟨x30, x31, x32, x33, x34, x35, x36, x37, x38, x39, x40, x41, x42, x43, x44, x45, x10, rfl, hB, hh0, hh1, hh2, hh3, hh4, hh5, hh6, hh7, hh8, hh9, hh10, hh11, hh12, hh13, hh14, hh15, hh16, -, -, -, -⟩ := hJ
          obtain rfl := hh0 (hall 0 (by decide))
          obtain rfl := hh1 (hall 1 (by decide))
          obtain rfl := hh2 (hall 2 (by decide))
          obtain rfl := hh3 (hall 3 (by decide))
          obtain rfl := hh4 (hall 4 (by decide))
          obtain rfl := hh5 (hall 5 (by decide))
          obtain rfl := hh6 (hall 6 (by decide))
          obtain rfl := hh7 (hall 7 (by decide))
          obtain rfl := hh8 (hall 8 (by decide))
          obtain rfl := hh9 (hall 9 (by decide))
          obtain rfl := hh10 (hall 10 (by decide))
          obtain rfl := hh11 (hall 11 (by decide))
          obtain rfl := hh12 (hall 12 (by decide))
          obtain rfl := hh13 (hall 13 (by decide))
          clear hh14
          clear hh15
          obtain ⟨gf, cf, rfl, hgf, hof⟩ := hh16 (hall 16 (by decide))
          clear hall
          have Q4 := Lib.hid (Q.out.trans hB)
          have HNT : Hid (shiftBy b (ss.take (k + 1)) = T ++ [⟨s0 + b, s1⟩]) := Lib.hid HN.out
          have HO4 := Lib.hid hof
          clear hB f0 f1 hof
          go_wp2_with fail
          go_roundw
          case rel => exact ⟨k + 1, gf, cf, T ++ [⟨s0 + b, s1⟩], by omega, by go_num, HNT, rfl, hgf, by rw [flatSpot_append]; exact HO4.out, Q4.out⟩
          case measure => simp [intOf]; omega
        · obtain rfl : k = n := by omega
          have HTT : Hid (shiftBy b ss = T) := Lib.hid (by rw [← hT.out, List.take_of_length_le (by rw [HSL.out]; exact Nat.le_refl _)])
          obtain ⟨x0, x1⟩ := X.out _ (BB.out _ hq)
          have O := Lib.hid hown
          have Q := Lib.hid hq
          have CPw := Lib.hid (CPk.out wr (BW.out _ (BB.out _ hq)) g0 cp (by rw [HTT.out]; exact own_Spots hown))
          clear hT hown hq CPk HIN
          go_wp2_with fail
          refine CPw.out.mono ?_
          rintro e w3 ⟨rfl, hb⟩
          have Q3 := Lib.hid ((BB.out _ Q.out).trans (hb.mono (BB.out _ Q.out).size))
          have O3 := Lib.hid (own_below O.out hb)
          have hsz := Nat.le_trans (BW.out _ Q1.out).size (Nat.le_of_eq HBASE.out)
          clear hb CPw x0 x1 Q O
          cases PK with
          | false =>
            obtain ⟨rfl, rfl⟩ := HANO.out rfl
            obtain rfl : 0 = z := HM.out
            clear HANO HAYES
            go_wp2_with fail
            refine bodyPost_ret (results_tmp2 rfl _ _ _) rfl ?_
            exact ⟨_, 0, rfl, by first | exact HEMP.out _ (BW.out _ Q3.out) | (rw [← hxb]; exact HEMP.out _ (BW.out _ Q3.out)), by first | exact (BW.out _ Q3.out).alloc (BW.out _ Q3.out).size _ | (rw [← hxb]; exact (BW.out _ Q3.out).alloc (BW.out _ Q3.out).size _)⟩
          | true =>
            obtain ⟨hL, rfl⟩ := HAYES.out rfl
            obtain rfl : k = z := by rw [← HM.out, hL, shiftBy_len, HSL.out]
            have HL : Hid (L = T) := Lib.hid (hL.trans HTT.out)
            have O5 := Lib.hid (own_low O3.out hsz)
            clear HANO HAYES hL HTT O3
            obtain rfl := HL.out
            go_wp2_with fail
            refine bodyPost_ret (results_tmp2 rfl _ _ _) rfl ?_
            exact ⟨g0, cp, rfl, by first | exact O5.out | (rw [← hxb]; exact O5.out), by first | exact BW.out _ Q3.out | (rw [← hxb]; exact BW.out _ Q3.out)⟩
    · rw [decide_eq_false hbb]
      obtain ⟨rfl, rfl⟩ := HA.out.bad (by rw [decide_eq_false hbb, Bool.and_false])
      obtain rfl : 0 = z := HM.out
      clear HA CP X HPI hbb
      go_wp2_with fail
      refine bodyPost_ret (results_tmp2 rfl _ _ _) rfl ?_
      exact ⟨_, 0, rfl, by first | exact HEMP.out _ (BW.out _ Q1.out) | (rw [← hxb]; exact HEMP.out _ (BW.out _ Q1.out)), by first | exact (BW.out _ Q1.out).alloc (BW.out _ Q1.out).size _ | (rw [← hxb]; exact (BW.out _ Q1.out).alloc (BW.out _ Q1.out).size _)⟩
end Go.Proofs.Ytkdolpgnaabdaab
