/- Chapter 4: ChamberPicture of the program. -/
import Derived.Test.YtdleidlmjliapaaChZ
import Derived.Test.YtdleidlmjliapaaChE
namespace Go.Proofs.Ytdleidlmjliapaa
open Go.RowKit Go.PlainAid Go.Sort
set_option linter.unusedVariables false
set_option linter.unusedSimpArgs false

theorem grownSet (w : World) (g i : Nat) (u : Value) : w.grownBy (w.setCell ⟨g, i, none⟩ u) (some g) :=
  ⟨rfl, rfl, rfl, by simp [World.setCell], fun k _ hk => Below.heap_setCell _ _ _ _ (fun e => hk (by rw [e]))⟩
/-- A store elsewhere. -/
theorem cell_set_ne {w : World} {g i b j : Nat} {u v : Value} (h : w.cell? ⟨b, j, none⟩ = some v) (hne : b ≠ g) : (w.setCell ⟨g, i, none⟩ u).cell? ⟨b, j, none⟩ = some v :=
  (World.cell?_of_block (a := ⟨b, j, none⟩) ((grownSet w g i u).block b (World.block_lt_of_cell? w (a := ⟨b, j, none⟩) h) (by simp; exact hne))).trans h
/-- n bytes of a row: the letters that f tells. -/
def PRow (w : World) (g n : Nat) (f : Nat → Nat) : Prop := ∃ L : List UInt8, ByteRow w g L ∧ L.length = n ∧ ∀ i, i < n → L[i]? = some (letterB (f i))
theorem PRow.lt {w : World} {g n : Nat} {f : Nat → Nat} (h : PRow w g n f) : g < w.heap.size := by
  obtain ⟨L, h1, -⟩ := h
  exact h1.lt
theorem PRow.below {w w' : World} {g n B : Nat} {f : Nat → Nat} (h : PRow w g n f) (hb : Below B w w') (hg : g < B) : PRow w' g n f := by
  obtain ⟨L, h1, h2⟩ := h
  exact ⟨L, h1.below hb hg, h2⟩
theorem PRow.congr {w : World} {g n : Nat} {f f' : Nat → Nat} (h : PRow w g n f) (he : ∀ i, i < n → f i = f' i) : PRow w g n f' := by
  obtain ⟨L, h1, h2, h3⟩ := h
  exact ⟨L, h1, h2, fun i hi => by rw [← he i hi]; exact h3 i hi⟩
theorem PRow.cellAt {w : World} {g n : Nat} {f : Nat → Nat} (h : PRow w g n f) {i : Nat} (hi : i < n) : ∃ v, w.cell? ⟨g, i, none⟩ = some v := by
  obtain ⟨L, h1, h2, h3⟩ := h
  exact ⟨_, h1.cell (h3 i hi)⟩
theorem PRow.frozen {w : World} {g n : Nat} {f : Nat → Nat} (h : PRow w g n f) (i : Nat) : w.frozen? ⟨g, i, none⟩ = false := by
  obtain ⟨L, h1, -⟩ := h
  exact h1.frozen i
theorem PRow.set {w : World} {g n : Nat} {f : Nat → Nat} (h : PRow w g n f) {i : Nat} (hi : i < n) (c : Nat) (x : Int) (hx : x = ((letterB c).toNat : Int)) :
    PRow (w.setCell ⟨g, i, none⟩ (.int .u8 x)) g n (fun q => if q = i then c else f q) := by
  obtain ⟨L, ⟨cur, h1, h1b, h1c⟩, h2, h3⟩ := h
  refine ⟨L.set i (letterB c), ⟨cur.set i (.int .u8 x), ?_, by simpa using h1b, fun j b hj => ?_⟩, by simpa using h2, fun q hq => ?_⟩
  · have := heap_setCell_same w g i cur.toArray 5 (.int .u8 x) h1
    rw [this]
    simp
  · by_cases hji : j = i
    · subst hji
      rw [List.getElem?_set_self (by omega)] at hj
      injection hj with hj
      rw [List.getElem?_set_self (by omega), ← hj, hx]
    · rw [List.getElem?_set_ne (Ne.symm hji)] at hj ⊢
      exact h1c j b hj
  · by_cases hqi : q = i
    · subst hqi
      rw [List.getElem?_set_self (by omega)]
      dsimp only
      rw [if_pos rfl]
    · rw [List.getElem?_set_ne (Ne.symm hqi)]
      dsimp only
      rw [if_neg hqi]
      exact h3 q hq
theorem PRow.rep {w : World} {g n : Nat} (h : ByteRow w g (List.replicate n 46)) : PRow w g n (fun _ => 0) :=
  ⟨_, h, by simp, fun i hi => by rw [List.getElem?_replicate, if_pos hi]; rfl⟩
theorem PRow.back {w : World} {g n : Nat} {hs : List THull} {ss : List TSpot} {j : Nat} (h : PRow w g n (fun i => cv hs ss i j)) (c : Nat) :
    (convert 22 9 (.slice (some ⟨g, 0, none⟩) n c)).run Try.prog w = .ok (.string (mkB (rowB hs ss j n))) w := by
  obtain ⟨L, h1, h2, h3⟩ := h
  have hL : L = rowB hs ss j n := by
    apply List.ext_getElem?
    intro i
    by_cases hi : i < n
    · rw [h3 i hi, rowB, List.getElem?_map, List.getElem?_range hi]
      rfl
    · rw [List.getElem?_eq_none (by omega), List.getElem?_eq_none (by rw [rowB_len]; omega)]
  have := run_convert_bytes_back (P := Try.prog) w 22 9 5 ⟨g, 0, none⟩ c L Try.underlying22 Try.underlying5 Try.underlying9 (fun q hq => by
    rw [show (⟨g, 0, none⟩ : Addr).add q = ⟨g, q, none⟩ from (by unfold Addr.add; split <;> simp_all)]
    exact h1.cell (List.getElem?_eq_getElem hq))
  rw [h2, hL] at this
  exact this
theorem letter_num {k : Nat} (hk : k ≤ 3) : (97 : Int) + (k : Int) = ((letterB (k + 1)).toNat : Int) := by
  have hcases : k = 0 ∨ k = 1 ∨ k = 2 ∨ k = 3 := by omega
  rcases hcases with rfl | rfl | rfl | rfl <;> rfl
/-- The cells of the k-th hull up to the a-th. -/
def upTo (hs : List THull) (ss : List TSpot) (j k p a i : Nat) : Nat := if p ≤ i ∧ i < p + a then k + 1 else cvUp hs ss i j k

set_option maxRecDepth 100000 in
set_option maxHeartbeats 4000000 in
theorem picI_any {w : World} {B B' : Nat} {A A' : Option Addr} {n n' : Nat} {hs : List THull} {ss : List TSpot} (cl cb : Int) (c c' : Nat) (h : IsHulls w B A n hs) (h' : IsSpots w B' A' n' ss) (hm : n ≤ 1048576) (hm' : n' ≤ 1048576) (S : ByteArray) (x : Bool) (hx : PicA ⟨cl, cb⟩ hs ss S x) :
    Calls Try.prog 17 #[.agg #[.int .i64 cl, .int .i64 cb], .slice A n c, .slice A' n' c'] w fun e w' => e = .returned (.tuple #[.string S, .bool x]) ∧ Below w.heap.size w w' := by
  have CA := Lib.hid (fun W (hb : Below w.heap.size w W) => isPacking_any cl cb c c' (h.below hb h.low) (h'.below hb h'.low) hm hm')
  have CI := Lib.hid (fun x a b W => toBelow (inRange_any x a b W))
  have HH := Lib.hid h
  have HS' := Lib.hid h'
  have HX := Lib.hid hx
  have HP := Lib.hid (fun g => (gP_iff ⟨cl, cb⟩ hs ss).1 g)
  obtain ⟨R, hR⟩ : ∃ R, gP ⟨cl, cb⟩ hs ss = R := ⟨_, rfl⟩
  have HR := Lib.hid hR
  rw [hR] at CA
  obtain ⟨xb, hxb⟩ : ∃ x, w.heap.size = x := ⟨_, rfl⟩
  obtain ⟨W1, hW1⟩ : ∃ W, w.alloc (.cells #[.int .i64 cl, .int .i64 cb] 25) = W := ⟨_, rfl⟩
  have HB1 := Lib.hid (show Below w.heap.size w W1 by rw [← hW1]; exact below1 w _)
  have x0 : W1.cell? ⟨xb, 0, none⟩ = some (.int .i64 cl) := by rw [← hW1, ← hxb, sNew]; rfl
  have x1 : W1.cell? ⟨xb, 1, none⟩ = some (.int .i64 cb) := by rw [← hW1, ← hxb, sNew]; rfl
  have hlx := World.block_lt_of_cell? _ _ x0
  have X := Lib.hid (fun W (hq : Below W1.heap.size W1 W) => show W.cell? ⟨xb, 0, none⟩ = some (.int .i64 cl) ∧ W.cell? ⟨xb, 1, none⟩ = some (.int .i64 cb) from ⟨(hq.cell hlx).trans x0, (hq.cell (p := ⟨xb, 1, none⟩) hlx).trans x1⟩)
  have BW := Lib.hid (fun W (hq : Below W1.heap.size W1 W) => HB1.out.trans (hq.mono HB1.out.size))
  clear h h' hx hR hlx
  go_enter Try.func17, Try.ntmps17
  go_wp2_with fail
  try rw [hW1]
  clear hW1
  refine (CA.out _ HB1.out).mono ?_
  rintro e w1 ⟨rfl, hb⟩
  have Q1 := Lib.hid hb
  clear hb CA x0 x1
  cases R with
  | false =>
    obtain ⟨hS, rfl⟩ := HX.out.bad HR.out
    have HS := Lib.hid hS
    clear HX HP hS CI X
    go_wp2_with fail
    refine bodyPost_ret (results_tmp2 rfl _ _ _) rfl ?_
    exact ⟨by rw [HS.out]; rfl, by first | exact BW.out _ Q1.out | (rw [← hxb]; exact BW.out _ Q1.out)⟩
  | true =>
    have HPk := Lib.hid (HP.out HR.out)
    obtain ⟨hS, rfl⟩ := HX.out.yes HR.out
    have HS := Lib.hid hS
    have hnn : n' = n := by have := HPk.out.2.2.1; rw [HH.out.len, HS'.out.len] at this; exact this
    subst hnn
    have hcl := HPk.out.1.1
    have hcb := HPk.out.1.2
    dsimp only at hcl hcb
    obtain ⟨N, hN⟩ : ∃ N : Nat, cl = N := ⟨cl.toNat, by omega⟩
    subst hN
    have HPL := Lib.hid (picB_len (c := ⟨(N : Int), cb⟩) hcl.2 hs ss)
    have hn4 : n' ≤ 4 := by have := HPk.out.2.1.1; rw [HH.out.len] at this; exact this
    have CRE := Lib.hid (fun W a (ha : W.cell? (a.add 0) = some (Value.int .u8 46)) => repeat_any N (by omega) (by omega) W a 1 ha)
    have hq1 := Q1.out.size
    clear HX HP hS
    obtain ⟨x0, x1⟩ := X.out _ Q1.out
    go_wp2_with fail
    clear x0 x1
    go_loopw [8, 21] (fun v q wr => ∃ (j : Nat) (T : ByteArray), (j : Int) ≤ cb ∧ q = .int .i64 j ∧ v = .string T ∧ Hid (T = mkB (picB ⟨(N : Int), cb⟩ hs ss j)) ∧ Below W1.heap.size W1 wr) (fun _ q _ => cb.toNat - (intOf q).toNat)
    case atStart => exact ⟨0, _, by omega, rfl, rfl, Lib.hid rfl, Q1.out⟩
    case round =>
      clear Q1
      obtain ⟨j, T, hj, rfl, rfl, hT, hq⟩ := hrel
      by_cases hlt : (j : Int) < cb
      · have hpl := HPL.out j
        have HPE := Lib.hid (show picB ⟨(N : Int), cb⟩ hs ss (j + 1) = picB ⟨(N : Int), cb⟩ hs ss j ++ rowB hs ss j N ++ [10] from rfl)
        obtain ⟨PL, hPL⟩ : ∃ L, picB ⟨(N : Int), cb⟩ hs ss j = L := ⟨_, rfl⟩
        rw [hPL] at hpl HPE hT
        have hsz1 : T.size ≤ 60 := by rw [hT.out, mkB_size]; omega
        have Q2 := Lib.hid (hq.alloc hq.size (.cells #[.int .u8 46] 5))
        obtain ⟨x0, x1⟩ := X.out _ Q2.out
        have hc46 : (wr.alloc (.cells #[.int .u8 46] 5)).cell? ((⟨wr.heap.size, 0, none⟩ : Addr).add 0) = some (Value.int .u8 46) := cell_one_new wr (.int .u8 46) 5 0 _ rfl
        have HC46 := Lib.hid hc46
        have hqs := hq.size
        clear hPL hpl hq hc46
        go_wp2_with fail
        refine (CRE.out _ _ HC46.out).mono ?_
        rintro e w5 ⟨g, rfl, hgl, hrow, hb⟩
        have Q3 := Lib.hid (Q2.out.trans (hb.mono Q2.out.size))
        have hgW : W1.heap.size ≤ g := by have := Q2.out.size; omega
        have HP0 := Lib.hid ((PRow.rep hrow).congr (f' := fun i => cvUp hs ss i j 0) (fun i _ => rfl))
        clear hb hrow hgl Q2 HC46 x0 x1
        go_wp2_with fail
        go_loopw [30] (fun q wr => ∃ k : Nat, k ≤ n' ∧ q = .int .i64 k ∧ Hid (PRow wr g N (fun i => cvUp hs ss i j k)) ∧ Below W1.heap.size W1 wr) (fun q _ => n' - (intOf q).toNat)
        case atStart => exact ⟨0, Nat.zero_le _, rfl, HP0, Q3.out⟩
        case round =>
          clear HP0 Q3
          obtain ⟨k, hk, rfl, hpr, hq⟩ := hrel
          by_cases hlk : k < n'
          · have hkh : k < hs.length := by rw [HH.out.len]; exact hlk
            have hks : k < ss.length := by rw [HS'.out.len]; exact hlk
            have hgk := (HPk.out.2.1.2 k hkh).1
            have hik : inside ⟨(N : Int), cb⟩ (hs.getD k noHull) (ss.getD k noSpot) := (HPk.out.2.2.2 k hks).1
            have HCV := Lib.hid (fun i => show cvUp hs ss i j (k + 1) = if cov (hs.getD k noHull, ss.getD k noSpot) i j then k + 1 else cvUp hs ss i j k from rfl)
            obtain ⟨aS, rfl, -, HW⟩ := (HS'.out.below (BW.out _ hq) HS'.out.low).has.Spot hks
            obtain ⟨aH, rfl, -, -⟩ := HH.out.has.Hull hkh
            have HHC := Lib.hid (fun W (hB : Below w.heap.size w W) => show HullAt W aH k (hs.getD k noHull) by
              obtain ⟨a, e, -, hv⟩ := (HH.out.below hB HH.out.low).has.Hull hkh
              injection e with e
              subst e
              exact hv)
            generalize hs.getD k noHull = VH at HHC hgk hik HCV
            generalize ss.getD k noSpot = VS at HW hik HCV
            obtain ⟨hd, hl, hbb⟩ := VH
            obtain ⟨s0, s1⟩ := VS
            obtain ⟨f0, f1⟩ := HW
            obtain ⟨⟨i0, i1⟩, i2, i3⟩ := hik
            obtain ⟨-, ⟨g1, g2⟩, g3, g4⟩ := hgk
            dsimp only at f0 f1 i0 i1 i2 i3 g1 g2 g3 g4
            obtain ⟨p, hp⟩ : ∃ p : Nat, s0 = p := ⟨s0.toNat, by omega⟩
            subst hp
            have hk0 : (0 : Int) ≤ (k : Int) := by omega
            have hk1 : (k : Int) < (n' : Int) := by omega
            have hk3 : k ≤ 3 := by omega
            have hws := hpr.out.lt
            go_wp2_with fail
            obtain ⟨W5, hW5⟩ : ∃ W, wr.alloc (.cells #[.int .i64 (p : Int), .int .i64 s1] 42) = W := ⟨_, rfl⟩
            obtain ⟨sb, hsb⟩ : ∃ z, wr.heap.size = z := ⟨_, rfl⟩
            have z0 : W5.cell? ⟨sb, 0, none⟩ = some (.int .i64 (p : Int)) := by rw [← hW5, ← hsb, sNew]; rfl
            have z1 : W5.cell? ⟨sb, 1, none⟩ = some (.int .i64 s1) := by rw [← hW5, ← hsb, sNew]; rfl
            have Q5 := Lib.hid (show Below W1.heap.size W1 W5 by rw [← hW5]; exact hq.alloc hq.size _)
            have HP5 := Lib.hid (show PRow W5 g N (fun i => cvUp hs ss i j k) by rw [← hW5]; exact hpr.out.below ((Below.refl wr.heap.size wr).alloc (Nat.le_refl _) _) hws)
            have hne : sb ≠ g := by omega
            rw [hW5]
            try rw [hsb]
            clear hW5 hsb hpr hq f0 f1 hws
            have eH := HHC.out _ (BW.out _ Q5.out)
            have E2 := fun (d : Nat) (os : Array Obj) => cell_regrown eH.c2 d os
            have Z0 := fun (d : Nat) (os : Array Obj) => cell_regrown z0 d os
            have Z1 := fun (d : Nat) (os : Array Obj) => cell_regrown z1 d os
            dsimp only at E2
            have CK := Lib.hid (fun W => CI.out (j : Int) s1 (s1 + hbb - 1) W)
            clear eH z0 z1
            by_cases hside : s1 ≤ (j : Int) ∧ (j : Int) ≤ s1 + hbb - 1
            · rw [decide_eq_true hside] at CK
              have cM := fun (dr : Nat) (os : Array Obj) => Calls.regrown_of (w := W5) (d := dr) (os := os) (CK.out _)
              have HSD := Lib.hid hside
              clear CK hside
              go_wp2
              refine wp_region_quiet_below (by kernel_rfl) (by kernel_rfl) ?_
              repeat (go_big_quiet_step (first | exact cM _ _))
              refine wpQuiet_nil ?_
              intro _ hw'
              obtain ⟨⟨dq, osq⟩, hw''⟩ := hw'
              subst hw''
              have Q6 := Lib.hid (Q5.out.trans ((below_regrown W5 dq osq).mono Q5.out.size))
              have z6 := Z0 dq osq
              have hb6 := below_regrown W5 dq osq
              obtain ⟨W6, hW6⟩ : ∃ W, grow (redrawn W5 dq) osq = W := ⟨_, rfl⟩
              rw [hW6] at Q6 z6 hb6
              have HP6 := Lib.hid (HP5.out.below hb6 HP5.out.lt)
              have HP60 : Hid (PRow W6 g N (upTo hs ss j k p 0)) := Lib.hid (HP6.out.congr (fun i _ => by unfold upTo; rw [if_neg (by omega)]))
              have e6 := (HHC.out _ (BW.out _ Q6.out)).c1
              dsimp only at e6
              simp only [hW6]
              clear hW6 Z0 Z1 E2 cM hb6 HP5 HP6
              go_wp2_with fail
              go_loopw [54] (fun q wr => ∃ a : Nat, (a : Int) ≤ hl ∧ q = .int .i64 a ∧ Hid (PRow wr g N (upTo hs ss j k p a)) ∧ wr.cell? ⟨sb, 0, none⟩ = some (.int .i64 (p : Int)) ∧ Below W1.heap.size W1 wr) (fun q _ => hl.toNat - (intOf q).toNat)
              case atStart => exact ⟨0, by omega, rfl, HP60, z6, Q6.out⟩
              case round =>
                clear HP60 z6 e6
                obtain ⟨a, ha, rfl, hpr, z6, hq⟩ := hrel
                by_cases hla : (a : Int) < hl
                · obtain ⟨ix, hix⟩ : ∃ z, p + a = z := ⟨_, rfl⟩
                  have hpa : (p : Int) + (a : Int) = (ix : Int) := by omega
                  have hpN : ix < N := by omega
                  have hpN' : (ix : Int) < (N : Int) := by omega
                  have hp0 : (0 : Int) ≤ (ix : Int) := by omega
                  have hp6 : (ix : Int) ≤ 6 := by omega
                  obtain ⟨v, hv⟩ := hpr.out.cellAt hpN
                  have hfz := hpr.out.frozen ix
                  have HSET := Lib.hid ((hpr.out.set hpN (k + 1) (97 + (k : Int)) (letter_num hk3)).congr (f' := upTo hs ss j k p (a + 1)) (fun i _ => by
                    try dsimp only
                    unfold upTo
                    by_cases h1 : i = ix
                    · rw [if_pos h1, if_pos (by omega)]
                    · rw [if_neg h1]
                      by_cases h2 : p ≤ i ∧ i < p + a
                      · rw [if_pos h2, if_pos (by omega)]
                      · rw [if_neg h2, if_neg (by omega)]))
                  have HZ7 := Lib.hid (cell_set_ne (g := g) (i := ix) (u := .int .u8 (97 + (k : Int))) z6 hne)
                  have HQ7 := Lib.hid (hq.setCell (p := ⟨g, ix, none⟩) hgW (.int .u8 (97 + (k : Int))))
                  have hk255 : (k : Int) ≤ 3 := by omega
                  clear hpr hq hix
                  go_wp2_with fail
                  go_roundw
                  case rel => exact ⟨a + 1, by omega, by go_num, HSET, HZ7.out, HQ7.out⟩
                  case measure => simp [intOf]; omega
                · have hae : (a : Int) = hl := by omega
                  have HPN : Hid (PRow wr g N (fun i => cvUp hs ss i j (k + 1))) := Lib.hid (hpr.out.congr (fun i _ => by
                    try dsimp only
                    unfold upTo
                    rw [HCV.out i]
                    have hsd := HSD.out
                    by_cases h2 : p ≤ i ∧ i < p + a
                    · rw [if_pos h2, if_pos (by unfold cov; dsimp only; omega)]
                    · rw [if_neg h2, if_neg (by unfold cov; dsimp only; omega)]))
                  have HQ7 := Lib.hid hq
                  clear hpr hq hae
                  go_wp2_with fail
                  go_roundw
                  case rel => exact ⟨k + 1, by omega, by go_num, HPN, HQ7.out⟩
                  case measure => simp [intOf]; omega
            · rw [decide_eq_false hside] at CK
              have cM := fun (dr : Nat) (os : Array Obj) => Calls.regrown_of (w := W5) (d := dr) (os := os) (CK.out _)
              have HSD := Lib.hid hside
              clear CK hside
              go_wp2
              refine wp_region_quiet_below (by kernel_rfl) (by kernel_rfl) ?_
              repeat (go_big_quiet_step (first | exact cM _ _))
              refine wpQuiet_nil ?_
              intro _ hw'
              obtain ⟨⟨dq, osq⟩, hw''⟩ := hw'
              subst hw''
              have Q6 := Lib.hid (Q5.out.trans ((below_regrown W5 dq osq).mono Q5.out.size))
              have HPN : Hid (PRow (grow (redrawn W5 dq) osq) g N (fun i => cvUp hs ss i j (k + 1))) := Lib.hid ((HP5.out.below (below_regrown W5 dq osq) HP5.out.lt).congr (fun i _ => by
                try dsimp only
                rw [HCV.out i, if_neg]
                intro hc
                unfold cov at hc
                dsimp only at hc
                exact HSD.out (by omega)))
              clear Z0 Z1 E2 cM HP5
              go_wp2
              go_roundw
              case rel => exact ⟨k + 1, by omega, by go_num, HPN, Q6.out⟩
              case measure => simp [intOf]; omega
          · obtain rfl : k = n' := by omega
            have hcv := PRow.back (hs := hs) (ss := ss) (j := j) (n := N) (g := g) (w := wr) (by have := hpr.out; rw [← HH.out.len] at this; exact this) N
            obtain ⟨RB, hRB⟩ : ∃ z, mkB (rowB hs ss j N) = z := ⟨_, rfl⟩
            have hsz2 : RB.size ≤ 60 := by rw [← hRB, mkB_size, rowB_len]; omega
            have HN : Hid (T ++ (RB ++ mkB [10]) = mkB (picB ⟨(N : Int), cb⟩ hs ss (j + 1))) := Lib.hid (by rw [hT.out, ← hRB, mkB_app, mkB_app, HPE.out, List.append_assoc])
            rw [hRB] at hcv
            have HQ7 := Lib.hid hq
            clear hpr hq hRB
            go_wp2_with fail
            go_roundw
            case rel => exact ⟨j + 1, _, by omega, by go_num, rfl, Lib.hid HN.out, HQ7.out⟩
            case measure => simp [intOf]; omega
      · have hje : j = cb.toNat := by omega
        have HN : Hid (T = S) := Lib.hid (by rw [hT.out, HS.out, hje])
        have Q := Lib.hid hq
        clear hje hq
        go_wp2_with fail
        refine bodyPost_ret (results_tmp2 rfl _ _ _) rfl ?_
        exact ⟨by rw [HN.out]; rfl, by first | exact BW.out _ Q.out | (rw [← hxb]; exact BW.out _ Q.out)⟩
end Go.Proofs.Ytdleidlmjliapaa
