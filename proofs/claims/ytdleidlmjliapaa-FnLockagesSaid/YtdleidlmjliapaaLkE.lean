/- Chapter 8, the model: when the lockages begin, the delay, the turns, the end, the longest wait. -/
import Derived.Test.YtdleidlmjliapaaLkD
namespace Go.Proofs.Ytdleidlmjliapaa
open Go.RowKit Go.PlainAid Go.Sort
set_option linter.unusedVariables false
set_option linter.unusedSimpArgs false

theorem addO (g o j : Nat) : (⟨g, o, none⟩ : Addr).add j = ⟨g, o + j, none⟩ := by unfold Addr.add; split <;> simp_all
/-- The call hands back a row of its own with these integers. -/
def OwnZ (w w' : World) (L : List Int) (n : Nat) (v : Value) : Prop :=
  ∃ g c, v = .slice (some ⟨g, 0, none⟩) n c ∧ w.heap.size ≤ g ∧ w'.ownsRow w.heap.size 3 1 (.slice (some ⟨g, 0, none⟩) n c) n (L.map (.int .i64)) ∧ Below w.heap.size w w'
theorem OwnZ.below {w w' W : World} {L : List Int} {n : Nat} {v : Value} (h : OwnZ w w' L n v) (hb : Go.RowKit.Below w'.heap.size w' W) : OwnZ w W L n v := by
  obtain ⟨g, c, rfl, h1, h2, h3⟩ := h
  exact ⟨g, c, rfl, h1, own_below h2 hb, h3.trans (hb.mono h3.size)⟩
theorem OwnZ.low {w w' : World} {L : List Int} {n : Nat} {v : Value} (h : OwnZ w w' L n v) : Go.RowKit.Below w.heap.size w w' := by
  obtain ⟨g, c, rfl, h1, h2, h3⟩ := h
  exact h3
theorem OwnZ.base {w0 w w' : World} {L : List Int} {n : Nat} {v : Value} (h : OwnZ w w' L n v) (hb : Go.RowKit.Below w0.heap.size w0 w) : OwnZ w0 w' L n v := by
  obtain ⟨g, c, rfl, h1, h2, h3⟩ := h
  exact ⟨g, c, rfl, Nat.le_trans hb.size h1, own_low h2 hb.size, hb.trans (h3.mono hb.size)⟩
theorem OwnZ.nil {w w0 : World} (hb : Below w.heap.size w w0) : OwnZ w (w0.alloc (.cells #[] 3)) [] 0 (.slice (some ⟨w0.heap.size, 0, none⟩) 0 0) :=
  ⟨w0.heap.size, 0, rfl, hb.size, own_low (World.ownsRow_made w0 #[] 0 (Nat.le_refl _) (by unfold maxLen; omega) rfl) hb.size, hb.alloc hb.size _⟩
theorem OwnZ.is {w w' : World} {L : List Int} {n : Nat} {v : Value} (h : OwnZ w w' L n v) : ∃ g c, v = .slice (some ⟨g, 0, none⟩) n c ∧ IsIs w' w'.heap.size (some ⟨g, 0, none⟩) n L := by
  obtain ⟨g, c, rfl, h1, h2, h3⟩ := h
  exact ⟨g, c, rfl, own_IsIs h2⟩
def GivesZ (w : World) (L : List Int) (m : Nat) (x : Bool) (e : Ending) (w' : World) : Prop :=
  ∃ g c', e = .returned (.tuple #[.slice (some ⟨g, 0, none⟩) m c', .bool x]) ∧ w'.ownsRow w.heap.size 3 1 (.slice (some ⟨g, 0, none⟩) m c') m (L.map (.int .i64)) ∧ Below w.heap.size w w'
theorem OwnZ.gives {w w' : World} {L : List Int} {n : Nat} {v : Value} (h : OwnZ w w' L n v) (x : Bool) : GivesZ w L n x (.returned (.tuple #[v, .bool x])) w' := by
  obtain ⟨g, c, rfl, h1, h2, h3⟩ := h
  exact ⟨g, c, rfl, h2, h3⟩

theorem l1Most_any (x y : Int) (w : World) : Calls Try.prog 87 #[.int .i64 x, .int .i64 y] w fun e w' => e = .returned (.int .i64 (max x y)) ∧ w = w' := by
  by_cases h : x > y
  · rw [show max x y = x by omega]
    go_enter Try.func87, Try.ntmps87
    go_wp2
    go_ret
    exact ⟨rfl, rfl⟩
  · rw [show max x y = y by omega]
    go_enter Try.func87, Try.ntmps87
    go_wp2
    go_ret
    exact ⟨rfl, rfl⟩

theorem lkSt_times {vs : List TArrival} {m : Int} {h : Bool} {os : List Int} {k : Nat} {Ls : List Tlockage} {fr : Int} {hi : Bool} {V : TArrival} {i : Int} (hk : k < os.length) (e : lkSt vs m h (os.take k) = (Ls, fr, hi)) (ei : os.getD k 0 = i) (ea : atA vs i = V) (F : Int) (eF : (if (V.x1 == hi) = true then fr + m else fr) = F) :
    lkSt vs m h (os.take (k + 1)) = (Ls ++ [⟨i, V.x1 == hi, max F V.x2, max F V.x2 - V.x2⟩], max F V.x2 + m, V.x1) := by
  rw [lkSt_take vs m h hk, e, ei]
  unfold lkStep
  dsimp only
  rw [ea, eF]
theorem timesL_app (Ls : List Tlockage) (l : Tlockage) : (timesL (Ls ++ [l])).map (Value.int .i64) = (timesL Ls).map (.int .i64) ++ [.int .i64 l.x2] := by
  unfold timesL; simp
set_option maxRecDepth 100000 in
set_option maxHeartbeats 4000000 in
theorem l8Times_any {w : World} {B B2 : Nat} {A A2 : Option Addr} {n n2 : Nat} {vs : List TArrival} {os : List Int} (c c2 : Nat) (h : IsArrivals w B A n vs) (hm : n ≤ 6) (h2 : IsIs w B2 A2 n2 os) (hm2 : n2 ≤ 6) (hi : Bool) (m : Int) (hmm : 1 ≤ m ∧ m ≤ 60) (hg : goodAs vs) (hr : ∀ p, p < n2 → inA n (os.getD p 0)) :
    Calls Try.prog 60 #[.slice A n c, .bool hi, .int .i64 m, .slice A2 n2 c2] w fun e w' => ∃ v, e = .returned v ∧ OwnZ w w' (timesL (lks vs m hi os)) n2 v := by
  obtain ⟨i0, hi, hz0, hz1, hz2⟩ := info_parts Try.infoInt'
  rename_i hgh
  have CM := Lib.hid (fun (x y : Int) (W : World) => l1Most_any x y W)
  have HI := Lib.hid h
  have HO := Lib.hid h2
  have HR := Lib.hid hr
  have HLB := Lib.hid (fun k (hk : k ≤ os.length) => lkB (vs := vs) (m := m) (h := hgh) (os := os) hmm (good_in hg (fun p hp => by rw [h.len]; exact hr p (by rw [← h2.len]; exact hp))) hk)
  have HEND : Hid (timesL (lks vs m hgh os) = timesL (lkSt vs m hgh (os.take n2)).1) := Lib.hid (by rw [← h2.len, List.take_length]; rfl)
  have HGA := Lib.hid (fun p (hp : p < n2) => good_in hg (os := os) (fun p hp => by rw [h.len]; exact hr p (by rw [← h2.len]; exact hp)) p (by rw [h2.len]; exact hp))
  have P1 := Lib.hid (OwnZ.nil (Below.refl w.heap.size w))
  clear h h2 hr hg
  go_enter Try.func60, Try.ntmps60
  go_wp2_with fail
  go_loopw [1, 9, 10, 11] (fun q v z i wr => ∃ (k : Nat) (Ls : List Tlockage) (fr : Int) (hh : Bool), lkSt vs m hgh (os.take k) = (Ls, fr, hh) ∧ k ≤ n2 ∧ i = .int .i64 k ∧ z = .int .i64 fr ∧ q = .bool hh ∧ OwnZ w wr (timesL Ls) k v) (fun _ _ _ i _ => n2 - (intOf i).toNat)
  case atStart => exact ⟨0, [], 0, hgh, rfl, Nat.zero_le _, rfl, rfl, rfl, P1.out⟩
  case round =>
    clear P1
    obtain ⟨k, Ls, fr, hh, hst, hk, rfl, rfl, rfl, hO⟩ := hrel
    have HST := Lib.hid hst
    by_cases hlt : k < n2
    · obtain ⟨g0, cp, rfl, hg0, hown, hb⟩ := hO
      have HB := Lib.hid hb
      have HOW := Lib.hid hown
      have hB := HLB.out k (by rw [HO.out.len]; omega)
      have hfr := hB.free
      rw [hst] at hfr
      dsimp only at hfr
      have hgk := (HGA.out k hlt).2.1
      obtain ⟨a2, rfl, -, f0⟩ := Has.numAt (HO.out.below hb HO.out.low).has (k := k) (by rw [HO.out.len]; exact hlt)
      obtain ⟨j, hj, hjn⟩ := inA_nat (HR.out k hlt)
      have HSX := Lib.hid (fun V (ea : atA vs (j : Int) = V) F (eF : (if (V.x1 == hh) = true then fr + m else fr) = F) => lkSt_times (by rw [HO.out.len]; exact hlt) hst hj ea F eF)
      rw [hj, atA_cast] at hgk
      rw [hj] at f0
      obtain ⟨a1, rfl, -, HV⟩ := (HI.out.below hb HI.out.low).has.Arrival (k := j) (by rw [HI.out.len]; exact hjn)
      replace HSX := Lib.hid (HSX.out _ (atA_cast vs j))
      generalize vs.getD j noArrival = V at HV hgk HSX
      obtain ⟨d, u, mi, g⟩ := V
      obtain ⟨e0, e1, e2, e3⟩ := HV
      dsimp only at e0 e1 e2 e3 hgk
      replace HSX : Hid (∀ F, (if (u == hh) = true then fr + m else fr) = F → lkSt vs m hgh (os.take (k + 1)) = (Ls ++ [⟨(j : Int), u == hh, max F mi, max F mi - mi⟩], max F mi + m, u)) := HSX
      have hk0 : (0 : Int) ≤ (k : Int) := by omega
      have hk1 : (k : Int) < (n2 : Int) := by omega
      have hj0 : (0 : Int) ≤ (j : Int) := by omega
      have hj1 : (j : Int) < (n : Int) := by omega
      have hfr2 : fr ≤ 10599 := by omega
      clear hst hB hown hb hj HST
      cases u <;> cases hh
      · skip
        have HST2 := Lib.hid (HSX.out (fr + m) rfl)
        clear HSX
        go_wp2_with fail
        obtain ⟨W5, hW5⟩ : ∃ W, World.alloc wr (.cells #[.int .i64 d, .bool false, .int .i64 mi, .int .i64 g] 58) = W := ⟨_, rfl⟩
        have hb5 : Below wr.heap.size wr W5 := by rw [← hW5]; exact below1 _ _
        have hown := own_below HOW.out hb5
        have hb := HB.out.trans (hb5.mono HB.out.size)
        (try rw [hW5])
        clear hW5 hb5 e0 e1 e2 e3 f0
        refine (CM.out (fr + m) mi _).mono ?_
        rintro e w6 ⟨rfl, rfl⟩
        have hmx : 0 ≤ max ((fr + m)) mi ∧ max ((fr + m)) mi ≤ 10719 := by omega
        obtain ⟨b, hb9⟩ : ∃ b, max ((fr + m)) mi = b := ⟨_, rfl⟩
        rw [hb9] at hmx HST2 ⊢
        clear hb9
        go_wp2_with (at_builtin; refine wpList_append_own _ rfl (.tmp 41) (.tmp 43) 46 rfl w.heap.size 3 i0 (.int .i64 0) 1 8 Try.underlying46 hi hz0 hz1 hz2 rfl (by decide) (.slice (some ⟨g0, 0, none⟩) (k) cp) (k) _ rfl (hown.alloc _) ⟨W5.heap.size, 0, none⟩ 1 1 [.int .i64 b] rfl rfl (cell_one_new _ _ _) (by simp [Value.oneCell']) (by unfold maxLen; omega) (by omega) (by have := (hb).size; simp; omega) ?_; intro v1 w1 hown1 hgrow1 hnil1; obtain ⟨g1, c1, rfl, hg1⟩ := own_some hown1 (fun e => nomatch (hnil1.1 e).1); have hb1 := ((hb).alloc (hb).size (.cells #[.int .i64 b] 3)).grown hgrow1 (by have := (hb).size; simp; omega) (fun q hq => by cases hq; assumption); clear hnil1 hgrow1 hown hb)
        go_roundw
        case rel => exact ⟨k + 1, _, _, _, HST2.out, by omega, by go_num, rfl, rfl, g1, c1, rfl, hg1, by rw [timesL_app]; exact hown1, hb1⟩
        case measure => simp [intOf]; omega
      · skip
        have HST2 := Lib.hid (HSX.out fr rfl)
        clear HSX
        go_wp2_with fail
        obtain ⟨W5, hW5⟩ : ∃ W, World.alloc wr (.cells #[.int .i64 d, .bool false, .int .i64 mi, .int .i64 g] 58) = W := ⟨_, rfl⟩
        have hb5 : Below wr.heap.size wr W5 := by rw [← hW5]; exact below1 _ _
        have hown := own_below HOW.out hb5
        have hb := HB.out.trans (hb5.mono HB.out.size)
        (try rw [hW5])
        clear hW5 hb5 e0 e1 e2 e3 f0
        refine (CM.out fr mi _).mono ?_
        rintro e w6 ⟨rfl, rfl⟩
        have hmx : 0 ≤ max (fr) mi ∧ max (fr) mi ≤ 10719 := by omega
        obtain ⟨b, hb9⟩ : ∃ b, max (fr) mi = b := ⟨_, rfl⟩
        rw [hb9] at hmx HST2 ⊢
        clear hb9
        go_wp2_with (at_builtin; refine wpList_append_own _ rfl (.tmp 41) (.tmp 43) 46 rfl w.heap.size 3 i0 (.int .i64 0) 1 8 Try.underlying46 hi hz0 hz1 hz2 rfl (by decide) (.slice (some ⟨g0, 0, none⟩) (k) cp) (k) _ rfl (hown.alloc _) ⟨W5.heap.size, 0, none⟩ 1 1 [.int .i64 b] rfl rfl (cell_one_new _ _ _) (by simp [Value.oneCell']) (by unfold maxLen; omega) (by omega) (by have := (hb).size; simp; omega) ?_; intro v1 w1 hown1 hgrow1 hnil1; obtain ⟨g1, c1, rfl, hg1⟩ := own_some hown1 (fun e => nomatch (hnil1.1 e).1); have hb1 := ((hb).alloc (hb).size (.cells #[.int .i64 b] 3)).grown hgrow1 (by have := (hb).size; simp; omega) (fun q hq => by cases hq; assumption); clear hnil1 hgrow1 hown hb)
        go_roundw
        case rel => exact ⟨k + 1, _, _, _, HST2.out, by omega, by go_num, rfl, rfl, g1, c1, rfl, hg1, by rw [timesL_app]; exact hown1, hb1⟩
        case measure => simp [intOf]; omega
      · skip
        have HST2 := Lib.hid (HSX.out fr rfl)
        clear HSX
        go_wp2_with fail
        obtain ⟨W5, hW5⟩ : ∃ W, World.alloc wr (.cells #[.int .i64 d, .bool true, .int .i64 mi, .int .i64 g] 58) = W := ⟨_, rfl⟩
        have hb5 : Below wr.heap.size wr W5 := by rw [← hW5]; exact below1 _ _
        have hown := own_below HOW.out hb5
        have hb := HB.out.trans (hb5.mono HB.out.size)
        (try rw [hW5])
        clear hW5 hb5 e0 e1 e2 e3 f0
        refine (CM.out fr mi _).mono ?_
        rintro e w6 ⟨rfl, rfl⟩
        have hmx : 0 ≤ max (fr) mi ∧ max (fr) mi ≤ 10719 := by omega
        obtain ⟨b, hb9⟩ : ∃ b, max (fr) mi = b := ⟨_, rfl⟩
        rw [hb9] at hmx HST2 ⊢
        clear hb9
        go_wp2_with (at_builtin; refine wpList_append_own _ rfl (.tmp 41) (.tmp 43) 46 rfl w.heap.size 3 i0 (.int .i64 0) 1 8 Try.underlying46 hi hz0 hz1 hz2 rfl (by decide) (.slice (some ⟨g0, 0, none⟩) (k) cp) (k) _ rfl (hown.alloc _) ⟨W5.heap.size, 0, none⟩ 1 1 [.int .i64 b] rfl rfl (cell_one_new _ _ _) (by simp [Value.oneCell']) (by unfold maxLen; omega) (by omega) (by have := (hb).size; simp; omega) ?_; intro v1 w1 hown1 hgrow1 hnil1; obtain ⟨g1, c1, rfl, hg1⟩ := own_some hown1 (fun e => nomatch (hnil1.1 e).1); have hb1 := ((hb).alloc (hb).size (.cells #[.int .i64 b] 3)).grown hgrow1 (by have := (hb).size; simp; omega) (fun q hq => by cases hq; assumption); clear hnil1 hgrow1 hown hb)
        go_roundw
        case rel => exact ⟨k + 1, _, _, _, HST2.out, by omega, by go_num, rfl, rfl, g1, c1, rfl, hg1, by rw [timesL_app]; exact hown1, hb1⟩
        case measure => simp [intOf]; omega
      · skip
        have HST2 := Lib.hid (HSX.out (fr + m) rfl)
        clear HSX
        go_wp2_with fail
        obtain ⟨W5, hW5⟩ : ∃ W, World.alloc wr (.cells #[.int .i64 d, .bool true, .int .i64 mi, .int .i64 g] 58) = W := ⟨_, rfl⟩
        have hb5 : Below wr.heap.size wr W5 := by rw [← hW5]; exact below1 _ _
        have hown := own_below HOW.out hb5
        have hb := HB.out.trans (hb5.mono HB.out.size)
        (try rw [hW5])
        clear hW5 hb5 e0 e1 e2 e3 f0
        refine (CM.out (fr + m) mi _).mono ?_
        rintro e w6 ⟨rfl, rfl⟩
        have hmx : 0 ≤ max ((fr + m)) mi ∧ max ((fr + m)) mi ≤ 10719 := by omega
        obtain ⟨b, hb9⟩ : ∃ b, max ((fr + m)) mi = b := ⟨_, rfl⟩
        rw [hb9] at hmx HST2 ⊢
        clear hb9
        go_wp2_with (at_builtin; refine wpList_append_own _ rfl (.tmp 41) (.tmp 43) 46 rfl w.heap.size 3 i0 (.int .i64 0) 1 8 Try.underlying46 hi hz0 hz1 hz2 rfl (by decide) (.slice (some ⟨g0, 0, none⟩) (k) cp) (k) _ rfl (hown.alloc _) ⟨W5.heap.size, 0, none⟩ 1 1 [.int .i64 b] rfl rfl (cell_one_new _ _ _) (by simp [Value.oneCell']) (by unfold maxLen; omega) (by omega) (by have := (hb).size; simp; omega) ?_; intro v1 w1 hown1 hgrow1 hnil1; obtain ⟨g1, c1, rfl, hg1⟩ := own_some hown1 (fun e => nomatch (hnil1.1 e).1); have hb1 := ((hb).alloc (hb).size (.cells #[.int .i64 b] 3)).grown hgrow1 (by have := (hb).size; simp; omega) (fun q hq => by cases hq; assumption); clear hnil1 hgrow1 hown hb)
        go_roundw
        case rel => exact ⟨k + 1, _, _, _, HST2.out, by omega, by go_num, rfl, rfl, g1, c1, rfl, hg1, by rw [timesL_app]; exact hown1, hb1⟩
        case measure => simp [intOf]; omega
    · obtain rfl : k = n2 := by omega
      go_wp2_with fail
      go_ret
      exact ⟨_, rfl, by rw [HEND.out, HST.out]; exact hO⟩
end Go.Proofs.Ytdleidlmjliapaa
