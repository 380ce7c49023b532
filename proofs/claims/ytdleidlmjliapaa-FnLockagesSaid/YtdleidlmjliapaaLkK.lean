/- Chapter 8, the model: the order in which they come. -/
import Derived.Test.YtdleidlmjliapaaLkF
import Derived.Test.YtdleidlmjliapaaLkX
namespace Go.Proofs.Ytdleidlmjliapaa
open Go.RowKit Go.PlainAid Go.Sort
set_option linter.unusedVariables false
set_option linter.unusedSimpArgs false

theorem keep_empty {w w' : World} {base g gq : Nat} {e : TypeId} {xs : List Value} (h : w.ownsRow base e 1 (.slice (some ⟨g, 0, none⟩) 0 0) 0 []) (hgr : w.grownBy w' (some g))
    (k : ∀ j u, xs[j]? = some u → w.cell? ((⟨gq, 0, none⟩ : Addr).add j) = some u) : ∀ j u, xs[j]? = some u → w'.cell? ((⟨gq, 0, none⟩ : Addr).add j) = some u := by
  intro j u hu
  have hc := k j u hu
  have hlt := World.block_lt_of_cell? w _ hc
  have hb : ((⟨gq, 0, none⟩ : Addr).add j).block = gq := by unfold Addr.add; split <;> rfl
  rw [hb] at hlt
  have hne : gq ≠ g := by
    rintro rfl
    rcases h.2 with ⟨e1, -⟩ | ⟨g', cap', cur, hv, -, hbk, -, -, hcs, -⟩
    · cases e1
    · cases hv
      have h0 : cur.size = 0 := by simpa using hcs
      unfold World.cell? at hc
      rw [hb, hbk] at hc
      simp only at hc
      split at hc
      · cases hc
      · rw [Array.getElem?_eq_none (by omega)] at hc; cases hc
  rw [← hc]
  exact World.cell?_of_block (by rw [hb]; exact hgr.block gq hlt (fun e => hne (by cases e; rfl)))
theorem first_nil (vs : List TArrival) : FirstA vs 0 [] := ⟨rfl, by simp, List.Pairwise.nil⟩
/-- What FirstComeLockages answers. -/
def ComeA (vs : List TArrival) (os : List Int) (x : Bool) : Prop := (gAs vs = true → FirstA vs vs.length os ∧ x = true) ∧ (gAs vs = false → os = [] ∧ x = false)
theorem first_ex {vs : List TArrival} (hg : goodAs vs) : ∀ k, k ≤ vs.length → ∃ os, FirstA vs k os
  | 0, _ => ⟨[], first_nil vs⟩
  | k + 1, h => by
    obtain ⟨os, hos⟩ := first_ex hg k (by omega)
    suffices ∀ d, d ≤ k → (∀ j, k - d ≤ j → j < k → befI vs (k : Int) (os.getD j 0)) → ∃ p, p ≤ k ∧ (∀ j, p ≤ j → j < k → befI vs (k : Int) (os.getD j 0)) ∧ (0 < p → ¬ befI vs (k : Int) (os.getD (p - 1) 0)) by
      obtain ⟨p, hp, h1, h2⟩ := this 0 (by omega) (fun j h1 h2 => absurd h1 (by omega))
      exact ⟨_, first_ins hg hos h hp h1 h2⟩
    intro d
    induction hd : k - d generalizing d with
    | zero => intro hdk hall; exact ⟨0, by omega, fun j h1 h2 => hall j (by omega) h2, fun h => absurd h (by omega)⟩
    | succ e ih =>
      intro hdk hall
      by_cases hb : befI vs (k : Int) (os.getD e 0)
      · exact ih (d + 1) (by omega) (by omega) (fun j h1 h2 => by
          by_cases hj : j = e
          · subst hj; exact hb
          · exact hall j (by omega) h2)
      · exact ⟨e + 1, by omega, fun j h1 h2 => hall j (by omega) h2, fun _ => by rw [Nat.add_sub_cancel]; exact hb⟩
theorem comeA_ex (vs : List TArrival) : ∃ os x, ComeA vs os x := by
  cases e : gAs vs with
  | true =>
    obtain ⟨os, h⟩ := first_ex ((gAs_iff vs).1 e) vs.length (Nat.le_refl _)
    exact ⟨os, true, fun _ => ⟨h, rfl⟩, fun k => by rw [e] at k; cases k⟩
  | false => exact ⟨[], false, fun k => (by rw [e] at k; cases k), fun _ => ⟨rfl, rfl⟩⟩
theorem ComeA.len {vs : List TArrival} {os : List Int} {x : Bool} (h : ComeA vs os x) : os.length ≤ 6 := by
  cases e : gAs vs with
  | true => rw [(h.1 e).1.len]; exact ((gAs_iff vs).1 e).1
  | false => rw [(h.2 e).1]; simp
set_option maxRecDepth 100000 in
set_option maxHeartbeats 8000000 in
theorem l8FirstCome_any {w : World} {B : Nat} {A : Option Addr} {n : Nat} {vs : List TArrival} (c : Nat) (h : IsArrivals w B A n vs) (hg : goodAs vs) :
    Calls Try.prog 68 #[.slice A n c] w fun e w' => ∃ v os, e = .returned v ∧ FirstA vs n os ∧ OwnZ w w' os n v := by
  obtain ⟨i0, hi, hz0, hz1, hz2⟩ := info_parts Try.infoInt'
  have CF := Lib.hid (fun (a b : TArrival) (W : World) => l8Before_any a b W)
  have HI := Lib.hid h
  have HG := Lib.hid hg
  have hn6 : n ≤ 6 := by rw [← h.len]; exact hg.1
  have ST := Lib.hid (OwnZ.nil (Below.refl w.heap.size w))
  clear h hg
  go_enter Try.func68, Try.ntmps68
  go_wp2_with fail
  go_loopw [3, 4] (fun o v wr => ∃ (i g0 cp : Nat) (os : List Int), i ≤ n ∧ v = .int .i64 i ∧ Hid (FirstA vs i os) ∧ o = .slice (some ⟨g0, 0, none⟩) i cp ∧ w.heap.size ≤ g0 ∧
      wr.ownsRow w.heap.size 3 1 (.slice (some ⟨g0, 0, none⟩) i cp) i (os.map (.int .i64)) ∧ Below w.heap.size w wr) (fun _ v _ => n - (intOf v).toNat)
  case atStart =>
    obtain ⟨g9, c9, e9, h1, h2, h3⟩ := ST.out
    exact ⟨0, g9, c9, [], Nat.zero_le _, rfl, Lib.hid (first_nil vs), e9, h1, h2, h3⟩
  case round =>
    clear ST
    obtain ⟨i, g0, cp, os, hin, rfl, hM, rfl, hg0, hown, hb⟩ := hrel
    by_cases hlt : i < n
    · have hil : i < vs.length := by rw [HI.out.len]; exact hlt
      have hOL := Lib.hid hM.out.len
      have HMM := Lib.hid hM.out.mem
      have HB := Lib.hid hb
      have HOW := Lib.hid hown
      have hi0 : (0 : Int) ≤ (i : Int) := by omega
      have hi1 : (i : Int) < (n : Int) := by omega
      have hi8 : (i : Int) ≤ 8 := by omega
      clear hb hown
      generalize wr = wo at *
      have HCE := Lib.hid (fun W (hq : Below wo.heap.size wo W) => (ownS_has HOW.out).below hq)
      have HINS := Lib.hid (fun k (hk : k ≤ i) => first_ins HG.out hM.out hil (p := k) hk)
      go_wp2_with fail
      go_loopw [5] (fun v wi => ∃ k : Nat, k ≤ i ∧ v = .int .i64 k ∧ Hid (∀ j, k ≤ j → j < i → befI vs (i : Int) (os.getD j 0)) ∧ Below wo.heap.size wo wi) (fun v _ => (intOf v).toNat)
      case atStart => exact ⟨i, Nat.le_refl _, rfl, Lib.hid (fun j h1 h2 => absurd h1 (by omega)), Below.refl _ _⟩
      case round =>
        obtain ⟨k, hk, rfl, hAf, hbi⟩ := hrel
        have HBI := Lib.hid hbi
        have HBW := Lib.hid (HB.out.trans (hbi.mono HB.out.size))
        clear hbi
        have hkn0 : (0 : Int) ≤ (k : Int) := by omega
        have hkn1 : (k : Int) ≤ (i : Int) := by omega
        rcases Nat.eq_zero_or_pos k with h0 | h0
        · have hkz : ¬ 0 < k := by omega
          have HORD := Lib.hid (HINS.out k hk hAf.out (fun h => absurd h (by omega)))
          have HK0 := Lib.hid h0
          clear h0
          go_wp2_with fail
          refine wp_region_quiet_below (by kernel_rfl) (by kernel_rfl) ?_
          repeat (go_big_quiet_step (fail))
          refine wpQuiet_nil ?_
          intro wi hw'
          have HBJ : Hid (Below wo.heap.size wo wi) := Lib.hid (by obtain ⟨p, e⟩ := hw'; rw [e]; exact HBI.out.trans ((below_regrown wr p.d p.os).mono HBI.out.size))
          clear hw'
          have hcp : i ≤ cp := by
            rcases HOW.out.2 with ⟨e, -⟩ | ⟨g', cap', cur, e, -, -, h1, -⟩
            · cases e
            · injection e with e1 e2 e3; omega
          have hkcp : k ≤ cp := by omega
          have HX : Hid (∀ W, Below wi.heap.size wi W → ∀ j u, (os.map (Value.int .i64))[j]? = some u → W.cell? ⟨g0, j, none⟩ = some u) := Lib.hid (fun W hq j u hu => by
            obtain ⟨a0, ea0, -, hc0⟩ := HCE.out W (HBJ.out.trans (hq.mono HBJ.out.size)) j u hu
            injection ea0 with ea0
            subst ea0
            rwa [addO, Nat.zero_add] at hc0)
          have HXL : Hid ((os.map (Value.int .i64)).length = i) := Lib.hid (by rw [List.length_map, hOL.out])
          have HXS : Hid ((os.take k ++ [(i : Int)] ++ os.drop k).map (Value.int .i64) = (os.map (Value.int .i64)).take k ++ [.int .i64 (i : Int)] ++ (os.map (Value.int .i64)).drop k) := Lib.hid (by simp [List.map_take, List.map_drop])
          have HXO : Hid (∀ u ∈ os.map (Value.int .i64), u.oneCell' = true) := Lib.hid (fun u hu => by obtain ⟨q, -, rfl⟩ := List.mem_map.1 hu; rfl)
          generalize os.map (Value.int .i64) = xs at HX HXL HXS HXO
          have HT1 : Hid ((xs.take k).length = k * 1) := Lib.hid (by rw [List.length_take, HXL.out]; omega)
          have HT2 : Hid ((xs.drop k).length = (i - k) * 1) := Lib.hid (by rw [List.length_drop, HXL.out]; omega)
          have HO1 : Hid (∀ u ∈ xs.take k, u.oneCell' = true) := Lib.hid (fun u hu => HXO.out u (List.mem_of_mem_take hu))
          have HO2 : Hid (∀ u ∈ xs.drop k, u.oneCell' = true) := Lib.hid (fun u hu => HXO.out u (List.mem_of_mem_drop hu))
          have HN1 : Hid (∀ W, Below wi.heap.size wi W → ∀ j u, (xs.take k)[j]? = some u → W.cell? ((⟨g0, 0, none⟩ : Addr).add j) = some u) := Lib.hid (fun W hq j u hu => by
            rw [addO, Nat.zero_add]
            refine HX.out W hq j u ?_
            rw [List.getElem?_take] at hu
            split at hu
            · exact hu
            · cases hu)
          obtain ⟨aq, haq⟩ : ∃ aq, (if cp = k then some ⟨g0, 0, none⟩ else some ⟨g0, k, none⟩ : Option Addr) = some aq := by split <;> exact ⟨_, rfl⟩
          have HAQ := Lib.hid haq
          have HN2 : Hid (∀ W, Below wi.heap.size wi W → ∀ j u, (xs.drop k)[j]? = some u → W.cell? (aq.add j) = some u) := Lib.hid (fun W hq j u hu => by
            have hjl := (List.getElem?_eq_some_iff.1 hu).1
            rw [List.length_drop, HXL.out] at hjl
            have haq2 := HAQ.out
            rw [if_neg (by omega)] at haq2
            injection haq2 with haq2
            subst haq2
            rw [addO]
            rw [List.getElem?_drop] at hu
            exact HX.out W hq (k + j) u hu)
          clear haq
          have hki : k + 1 + (i - k) = i + 1 := by omega
          clear HCE HINS HX HXO HXL hAf HBI HBW hM HOW CF hOL HMM
          go_wp2_with fail
          refine region_inv (by kernel_rfl) (by kernel_rfl) (fun Fl9 ac W => ∃ (x34 x35 x36 x37 x38 x39 x40 x41 x42 x43 x44 x45 x3 : Value), ac = { tmps := #[Value.slice A n c, undef, Value.slice none 0 0, x3, Value.int IntKind.i64 (i : Int), Value.int IntKind.i64 (k : Int), Value.slice (some ⟨w.heap.size, 0, none⟩) 0 0, Value.int IntKind.i64 (i : Int), Value.slice A n c, Value.int IntKind.i64 (n : Int), Value.bool true, u11, u12, Value.slice (some ⟨g0, 0, none⟩) i cp, Value.int IntKind.i64 (i : Int), Value.int IntKind.i64 (k : Int), Value.bool false, Value.bool false, undef, undef, undef, undef, undef, undef, undef, undef, undef, undef, undef, undef, undef, Value.bool false, u32, u33, x34, x35, x36, x37, x38, x39, x40, x41, x42, x43, x44, x45, undef], defers := [] } ∧ Below wi.heap.size wi W ∧
                (Fl9 0 = true → Fl9 4 = false → ∃ g, x34 = .slice (some ⟨g, 0, none⟩) 0 0 ∧ W.ownsRow wi.heap.size 3 1 (.slice (some ⟨g, 0, none⟩) 0 0) 0 []) ∧
                (Fl9 1 = true → x35 = .slice (some ⟨g0, 0, none⟩) i cp) ∧
                (Fl9 2 = true → x36 = .int .i64 (k : Int)) ∧
                (Fl9 3 = true → x37 = .slice (some ⟨g0, 0, none⟩) k cp) ∧
                (Fl9 4 = true → Fl9 7 = false → ∃ g c9, x38 = .slice (some ⟨g, 0, none⟩) k c9 ∧ W.ownsRow wi.heap.size 3 1 (.slice (some ⟨g, 0, none⟩) k c9) k (xs.take k)) ∧
                (Fl9 5 = true → x39 = .int .i64 (i : Int)) ∧
                (Fl9 6 = true → Fl9 7 = false → ∃ g, x40 = .slice (some ⟨g, 0, none⟩) 1 1 ∧ ∀ j u, [Value.int .i64 (i : Int)][j]? = some u → W.cell? ((⟨g, 0, none⟩ : Addr).add j) = some u) ∧
                (Fl9 7 = true → Fl9 11 = false → ∃ g c9, x41 = .slice (some ⟨g, 0, none⟩) (k + 1) c9 ∧ W.ownsRow wi.heap.size 3 1 (.slice (some ⟨g, 0, none⟩) (k + 1) c9) (k + 1) (xs.take k ++ [.int .i64 (i : Int)])) ∧
                (Fl9 8 = true → x42 = .slice (some ⟨g0, 0, none⟩) i cp) ∧
                (Fl9 9 = true → x43 = .int .i64 (k : Int)) ∧
                (Fl9 10 = true → x44 = .slice (some aq) (i - k) (cp - k)) ∧
                (Fl9 11 = true → ∃ g c9, x45 = .slice (some ⟨g, 0, none⟩) (i + 1) c9 ∧ wi.heap.size ≤ g ∧ W.ownsRow wi.heap.size 3 1 (.slice (some ⟨g, 0, none⟩) (i + 1) c9) (i + 1) (xs.take k ++ [.int .i64 (i : Int)] ++ xs.drop k)) ∧
                (Fl9 12 = true → ∃ g c9, x3 = .slice (some ⟨g, 0, none⟩) (i + 1) c9 ∧ wi.heap.size ≤ g ∧ W.ownsRow wi.heap.size 3 1 (.slice (some ⟨g, 0, none⟩) (i + 1) c9) (i + 1) (xs.take k ++ [.int .i64 (i : Int)] ++ xs.drop k)) ∧
                (Fl9 12 = true → Fl9 1 = true ∧ Fl9 8 = true) ∧
                (Fl9 12 = false → x3 = .slice (some ⟨g0, 0, none⟩) i cp) ∧
                (Fl9 7 = true → Fl9 4 = true) ∧
                (Fl9 11 = true → Fl9 7 = true) ∧
                (Fl9 12 = true → Fl9 11 = true)) ?_ ?_ ?_
          · exact ⟨_, _, _, _, _, _, _, _, _, _, _, _, _, rfl, (Drawn.one wi 1).below _, (fun q0 => nomatch q0), (fun q0 => nomatch q0), (fun q0 => nomatch q0), (fun q0 => nomatch q0), (fun q0 => nomatch q0), (fun q0 => nomatch q0), (fun q0 => nomatch q0), (fun q0 => nomatch q0), (fun q0 => nomatch q0), (fun q0 => nomatch q0), (fun q0 => nomatch q0), (fun q0 => nomatch q0), (fun q0 => nomatch q0), (fun q0 => nomatch q0), (fun _ => rfl), (fun q0 => nomatch q0), (fun q0 => nomatch q0), (fun q0 => nomatch q0)⟩
          · intro Fl9 ac W i9 o9 hJ ho hL hdep K9 hK
            obtain ⟨x34, x35, x36, x37, x38, x39, x40, x41, x42, x43, x44, x45, x3, rfl, hB, hh0, hh1, hh2, hh3, hh4, hh5, hh6, hh7, hh8, hh9, hh10, hh11, hh12, hx0, hx1, hx2, hx3, hx4⟩ := hJ
            have hi9 : i9 < 13 := by simpa using (Array.getElem?_eq_some_iff.1 ho).1
            obtain rfl | rfl | rfl | rfl | rfl | rfl | rfl | rfl | rfl | rfl | rfl | rfl | rfl : i9 = 0 ∨ i9 = 1 ∨ i9 = 2 ∨ i9 = 3 ∨ i9 = 4 ∨ i9 = 5 ∨ i9 = 6 ∨ i9 = 7 ∨ i9 = 8 ∨ i9 = 9 ∨ i9 = 10 ∨ i9 = 11 ∨ i9 = 12 := by omega
            · -- operation 0
              cases ho
              go_simp
              exact hK _ _ ⟨_, _, _, _, _, _, _, _, _, _, _, _, _, rfl, hB.trans ((Below.alloc (Below.refl W.heap.size W) (Nat.le_refl _) _).mono hB.size), fun _ _ => ⟨_, rfl, own_low (World.ownsRow_made W #[] 0 (Nat.le_refl _) (by unfold maxLen; omega) rfl) hB.size⟩, hh1, hh2, hh3, fun q0 r0 => (fun ⟨g, c9, e, o⟩ => ⟨g, c9, e, own_below o (Below.alloc (Below.refl W.heap.size W) (Nat.le_refl _) _)⟩) (hh4 q0 r0), hh5, fun q0 r0 => (fun ⟨g, e, h⟩ => ⟨g, e, fun j u hu => (Below.cell (Below.alloc (Below.refl W.heap.size W) (Nat.le_refl _) _) (World.block_lt_of_cell? W _ (h j u hu))).trans (h j u hu)⟩) (hh6 q0 r0), fun q0 r0 => (fun ⟨g, c9, e, o⟩ => ⟨g, c9, e, own_below o (Below.alloc (Below.refl W.heap.size W) (Nat.le_refl _) _)⟩) (hh7 q0 r0), hh8, hh9, hh10, fun q0 => (fun ⟨g, c9, e, h, o⟩ => ⟨g, c9, e, h, own_below o (Below.alloc (Below.refl W.heap.size W) (Nat.le_refl _) _)⟩) (hh11 q0), fun q0 => (fun ⟨g, c9, e, h, o⟩ => ⟨g, c9, e, h, own_below o (Below.alloc (Below.refl W.heap.size W) (Nat.le_refl _) _)⟩) (hh12 q0), hx0, hx1, hx2, hx3, hx4⟩
            · -- operation 1
              cases ho
              have hx9 : Fl9 12 = false := by
                cases hc9 : Fl9 12 with
                | false => rfl
                | true => exact absurd (hx0 hc9).1 (by rw [hL]; simp)
              obtain rfl := hx1 hx9
              go_simp
              exact hK _ _ ⟨_, _, _, _, _, _, _, _, _, _, _, _, _, rfl, hB, hh0, fun _ => rfl, hh2, hh3, hh4, hh5, hh6, hh7, hh8, hh9, hh10, hh11, hh12, fun q0 => ⟨rfl, (hx0 q0).2⟩, hx1, hx2, hx3, hx4⟩
            · -- operation 2
              cases ho
              go_simp
              exact hK _ _ ⟨_, _, _, _, _, _, _, _, _, _, _, _, _, rfl, hB, hh0, hh1, fun _ => rfl, hh3, hh4, hh5, hh6, hh7, hh8, hh9, hh10, hh11, hh12, hx0, hx1, hx2, hx3, hx4⟩
            · -- operation 3
              cases ho
              obtain rfl := hh1 (hdep ⟨1, .data⟩ (by simp) rfl)
              obtain rfl := hh2 (hdep ⟨2, .data⟩ (by simp) rfl)
              go_simp
              exact hK _ _ ⟨_, _, _, _, _, _, _, _, _, _, _, _, _, rfl, hB, hh0, hh1, hh2, fun _ => rfl, hh4, hh5, hh6, hh7, hh8, hh9, hh10, hh11, hh12, hx0, hx1, hx2, hx3, hx4⟩
            · -- operation 4
              cases ho
              have hd0 := hdep ⟨0, .data⟩ (by simp) rfl
              obtain ⟨g9, rfl, oe⟩ := hh0 hd0 hL
              obtain rfl := hh3 (hdep ⟨3, .data⟩ (by simp) rfl)
              refine step_append rfl (.tmp 34) (.tmp 37) 46 rfl wi.heap.size 3 i0 (.int .i64 0) 1 8 Try.underlying46 hi hz0 hz1 hz2 rfl (by decide) _ 0 _ rfl oe ⟨g0, 0, none⟩ k cp (xs.take k) rfl HT1.out (HN1.out W hB) HO1.out (by unfold maxLen; omega) (by omega) hB.size (fun e => nomatch e) ?_
              intro g1 cap w9 hown hgr
              rw [Nat.zero_add, List.nil_append] at hown
              rw [Nat.zero_add]
              have keep6 : (∃ g, x40 = .slice (some ⟨g, 0, none⟩) 1 1 ∧ ∀ j u, [Value.int .i64 (i : Int)][j]? = some u → W.cell? ((⟨g, 0, none⟩ : Addr).add j) = some u) → ∃ g, x40 = .slice (some ⟨g, 0, none⟩) 1 1 ∧ ∀ j u, [Value.int .i64 (i : Int)][j]? = some u → w9.cell? ((⟨g, 0, none⟩ : Addr).add j) = some u := fun ⟨gq, e, h⟩ => ⟨gq, e, keep_empty oe hgr h⟩
              exact hK _ _ ⟨_, _, _, _, _, _, _, _, _, _, _, _, _, rfl, hB.grown hgr hB.size (fun q e => (oe.lt q e).1), (fun _ q0 => nomatch q0), hh1, hh2, hh3, fun _ => fun _ => ⟨_, _, rfl, hown⟩, hh5, (fun q0 r0 => keep6 (hh6 q0 r0)), (fun q0 => absurd (hx2 q0) (by rw [hL]; simp)), hh8, hh9, hh10, (fun q0 => absurd (hx2 (hx3 q0)) (by rw [hL]; simp)), (fun q0 => absurd (hx2 (hx3 (hx4 q0))) (by rw [hL]; simp)), hx0, hx1, fun _ => rfl, hx3, hx4⟩
            · -- operation 5
              cases ho
              go_simp
              exact hK _ _ ⟨_, _, _, _, _, _, _, _, _, _, _, _, _, rfl, hB, hh0, hh1, hh2, hh3, hh4, fun _ => rfl, hh6, hh7, hh8, hh9, hh10, hh11, hh12, hx0, hx1, hx2, hx3, hx4⟩
            · -- operation 6
              cases ho
              obtain rfl := hh5 (hdep ⟨5, .data⟩ (by simp) rfl)
              go_simp
              exact hK _ _ ⟨_, _, _, _, _, _, _, _, _, _, _, _, _, rfl, hB.trans ((Below.alloc (Below.refl W.heap.size W) (Nat.le_refl _) _).mono hB.size), fun q0 r0 => (fun ⟨g, e, o⟩ => ⟨g, e, own_below o (Below.alloc (Below.refl W.heap.size W) (Nat.le_refl _) _)⟩) (hh0 q0 r0), hh1, hh2, hh3, fun q0 r0 => (fun ⟨g, c9, e, o⟩ => ⟨g, c9, e, own_below o (Below.alloc (Below.refl W.heap.size W) (Nat.le_refl _) _)⟩) (hh4 q0 r0), hh5, fun _ _ => ⟨_, rfl, cell_one_new W _ _⟩, fun q0 r0 => (fun ⟨g, c9, e, o⟩ => ⟨g, c9, e, own_below o (Below.alloc (Below.refl W.heap.size W) (Nat.le_refl _) _)⟩) (hh7 q0 r0), hh8, hh9, hh10, fun q0 => (fun ⟨g, c9, e, h, o⟩ => ⟨g, c9, e, h, own_below o (Below.alloc (Below.refl W.heap.size W) (Nat.le_refl _) _)⟩) (hh11 q0), fun q0 => (fun ⟨g, c9, e, h, o⟩ => ⟨g, c9, e, h, own_below o (Below.alloc (Below.refl W.heap.size W) (Nat.le_refl _) _)⟩) (hh12 q0), hx0, hx1, hx2, hx3, hx4⟩
            · -- operation 7
              cases ho
              have hd4 := hdep ⟨4, .data⟩ (by simp) rfl
              obtain ⟨g9, c9, rfl, oe⟩ := hh4 hd4 hL
              have hd6 := hdep ⟨6, .data⟩ (by simp) rfl
              obtain ⟨gn, rfl, hnew⟩ := hh6 hd6 hL
              refine step_append rfl (.tmp 38) (.tmp 40) 46 rfl wi.heap.size 3 i0 (.int .i64 0) 1 8 Try.underlying46 hi hz0 hz1 hz2 rfl (by decide) _ k _ rfl oe ⟨gn, 0, none⟩ 1 1 [.int .i64 (i : Int)] rfl rfl hnew (by simp [Value.oneCell']) (by unfold maxLen; omega) (by omega) hB.size (fun e => nomatch e) ?_
              intro g1 cap w9 hown hgr
              exact hK _ _ ⟨_, _, _, _, _, _, _, _, _, _, _, _, _, rfl, hB.grown hgr hB.size (fun q e => (oe.lt q e).1), (fun _ q0 => absurd ((show Fl9 4 = false from q0).symm.trans hd4) (by simp)), hh1, hh2, hh3, (fun _ q0 => nomatch q0), hh5, (fun _ q0 => nomatch q0), fun _ => fun _ => ⟨_, _, rfl, hown⟩, hh8, hh9, hh10, (fun q0 => absurd (hx3 q0) (by rw [hL]; simp)), (fun q0 => absurd (hx3 (hx4 q0)) (by rw [hL]; simp)), hx0, hx1, fun _ => hd4, fun _ => rfl, hx4⟩
            · -- operation 8
              cases ho
              have hx9 : Fl9 12 = false := by
                cases hc9 : Fl9 12 with
                | false => rfl
                | true => exact absurd (hx0 hc9).2 (by rw [hL]; simp)
              obtain rfl := hx1 hx9
              go_simp
              exact hK _ _ ⟨_, _, _, _, _, _, _, _, _, _, _, _, _, rfl, hB, hh0, hh1, hh2, hh3, hh4, hh5, hh6, hh7, fun _ => rfl, hh9, hh10, hh11, hh12, fun q0 => ⟨(hx0 q0).1, rfl⟩, hx1, hx2, hx3, hx4⟩
            · -- operation 9
              cases ho
              go_simp
              exact hK _ _ ⟨_, _, _, _, _, _, _, _, _, _, _, _, _, rfl, hB, hh0, hh1, hh2, hh3, hh4, hh5, hh6, hh7, hh8, fun _ => rfl, hh10, hh11, hh12, hx0, hx1, hx2, hx3, hx4⟩
            · -- operation 10
              cases ho
              obtain rfl := hh8 (hdep ⟨8, .data⟩ (by simp) rfl)
              obtain rfl := hh9 (hdep ⟨9, .data⟩ (by simp) rfl)
              go_simp
              exact hK _ _ ⟨_, _, _, _, _, _, _, _, _, _, _, _, _, rfl, hB, hh0, hh1, hh2, hh3, hh4, hh5, hh6, hh7, hh8, hh9, fun _ => (by rw [HAQ.out]), hh11, hh12, hx0, hx1, hx2, hx3, hx4⟩
            · -- operation 11
              cases ho
              have hd7 := hdep ⟨7, .data⟩ (by simp) rfl
              obtain ⟨g9, c9, rfl, oe⟩ := hh7 hd7 hL
              obtain rfl := hh10 (hdep ⟨10, .data⟩ (by simp) rfl)
              refine step_append rfl (.tmp 41) (.tmp 44) 46 rfl wi.heap.size 3 i0 (.int .i64 0) 1 8 Try.underlying46 hi hz0 hz1 hz2 rfl (by decide) _ (k + 1) _ rfl oe aq (i - k) (cp - k) (xs.drop k) rfl HT2.out (HN2.out W hB) HO2.out (by unfold maxLen; omega) (by omega) hB.size (fun e => nomatch e) ?_
              intro g1 cap w9 hown hgr
              rw [hki] at hown ⊢
              exact hK _ _ ⟨_, _, _, _, _, _, _, _, _, _, _, _, _, rfl, hB.grown hgr hB.size (fun q e => (oe.lt q e).1), (fun _ q0 => absurd ((show Fl9 4 = false from q0).symm.trans (hx2 hd7)) (by simp)), hh1, hh2, hh3, (fun _ q0 => absurd ((show Fl9 7 = false from q0).symm.trans hd7) (by simp)), hh5, (fun _ q0 => absurd ((show Fl9 7 = false from q0).symm.trans hd7) (by simp)), (fun _ q0 => nomatch q0), hh8, hh9, hh10, fun _ => ⟨_, _, rfl, (hown.lt g1 rfl).1, hown⟩, (fun q0 => absurd (hx4 q0) (by rw [hL]; simp)), hx0, hx1, hx2, fun _ => hd7, fun _ => rfl⟩
            · -- operation 12
              cases ho
              have hd11 := hdep ⟨11, .data⟩ (by simp) rfl
              obtain ⟨g9, c9, rfl, hg9, ho9⟩ := hh11 hd11
              go_simp
              exact hK _ _ ⟨_, _, _, _, _, _, _, _, _, _, _, _, _, rfl, hB, hh0, hh1, hh2, hh3, hh4, hh5, hh6, hh7, hh8, hh9, hh10, hh11, fun _ => ⟨_, _, rfl, hg9, ho9⟩, fun _ => ⟨hdep ⟨1, .phase⟩ (by simp) rfl, hdep ⟨8, .phase⟩ (by simp) rfl⟩, (fun q0 => nomatch q0), hx2, hx3, fun _ => hd11⟩
          intro Fl9 ac W hJ hall
          obtain ⟨x34, x35, x36, x37, x38, x39, x40, x41, x42, x43, x44, x45, x3, rfl, hB, hh0, hh1, hh2, hh3, hh4, hh5, hh6, hh7, hh8, hh9, hh10, hh11, hh12, -, -, -, -, -⟩ := hJ
          obtain rfl := hh1 (hall 1 (by decide))
          obtain rfl := hh2 (hall 2 (by decide))
          obtain rfl := hh3 (hall 3 (by decide))
          obtain rfl := hh5 (hall 5 (by decide))
          obtain rfl := hh8 (hall 8 (by decide))
          obtain rfl := hh9 (hall 9 (by decide))
          obtain rfl := hh10 (hall 10 (by decide))
          clear hh0
          clear hh4
          clear hh6
          clear hh7
          clear hh11
          obtain ⟨gf, cf, rfl, hgf, hof⟩ := hh12 (hall 12 (by decide))
          clear hall
          have HBE := Lib.hid (HBJ.out.trans (hB.mono HBJ.out.size))
          have HOF := Lib.hid hof
          clear hof hB HN1 HN2 HO1 HO2 HT1 HT2
          go_wp2_with fail
          go_roundw
          case rel => exact ⟨i + 1, gf, cf, os.take k ++ [(i : Int)] ++ os.drop k, by omega, by go_num, HORD, rfl, Nat.le_trans (Nat.le_trans HB.out.size HBJ.out.size) hgf, by rw [HXS.out]; exact own_low HOF.out (Nat.le_trans HB.out.size HBJ.out.size), HB.out.trans (HBE.out.mono HB.out.size)⟩
          case measure => simp [intOf]; omega
        · obtain ⟨k', rfl⟩ : ∃ k', k = k' + 1 := ⟨k - 1, by omega⟩
          obtain ⟨p, hp, hpn⟩ := inA_nat (HMM.out _ (getD_mem (p := k') (by rw [hOL.out]; omega)))
          obtain ⟨aU, eU, -, hU⟩ := (HI.out.below HBW.out HI.out.low).has.Arrival (k := p) (by rw [HI.out.len]; omega)
          obtain ⟨aV, eV, -, hV⟩ := (HI.out.below HBW.out HI.out.low).has.Arrival (k := i) hil
          rw [eU] at eV
          injection eV with eV
          subst eV
          subst eU
          obtain ⟨a0, ea0, -, hc0⟩ := Has.numAt (HCE.out _ HBI.out) (k := k') (by rw [hOL.out]; omega)
          injection ea0 with ea0
          subst ea0
          rw [hp] at hc0
          have hc1 := hc0
          rw [addO, Nat.zero_add] at hc1
          have HBF : Hid (befI vs (i : Int) (os.getD k' 0) ↔ bef (vs.getD i noArrival) (vs.getD p noArrival)) := Lib.hid (by unfold befI; rw [hp, atA_cast, atA_cast])
          have cA0 := fun W => CF.out (vs.getD i noArrival) (vs.getD p noArrival) W
          obtain ⟨r, hr⟩ : ∃ r, decide (bef (vs.getD i noArrival) (vs.getD p noArrival)) = r := ⟨_, rfl⟩
          rw [hr] at cA0
          have HR := Lib.hid hr
          clear hr
          generalize vs.getD i noArrival = V at hV HBF HR cA0
          generalize vs.getD p noArrival = U at hU HBF HR cA0
          obtain ⟨vd, vu, vm, vg⟩ := V
          obtain ⟨ud, uu, um, ug⟩ := U
          obtain ⟨u0, u1, u2, u3⟩ := hU
          obtain ⟨v0, v1, v2, v3⟩ := hV
          dsimp only at u0 u1 u2 u3 v0 v1 v2 v3 cA0
          have cA := fun (dr : Nat) (os : Array Obj) => Calls.regrown_of (w := wr) (d := dr) (os := os) (cA0 _)
          have O0 := fun (d : Nat) (os : Array Obj) => cell_regrown hc0 d os
          have O1 := fun (d : Nat) (os : Array Obj) => cell_regrown hc1 d os
          have U0 := fun (d : Nat) (os : Array Obj) => cell_regrown u0 d os
          have U1 := fun (d : Nat) (os : Array Obj) => cell_regrown u1 d os
          have U2 := fun (d : Nat) (os : Array Obj) => cell_regrown u2 d os
          have U3 := fun (d : Nat) (os : Array Obj) => cell_regrown u3 d os
          have V0 := fun (d : Nat) (os : Array Obj) => cell_regrown v0 d os
          have V1 := fun (d : Nat) (os : Array Obj) => cell_regrown v1 d os
          have V2 := fun (d : Nat) (os : Array Obj) => cell_regrown v2 d os
          have V3 := fun (d : Nat) (os : Array Obj) => cell_regrown v3 d os
          have hkp : 0 < k' + 1 := by omega
          have hk0' : (0 : Int) ≤ (k' : Int) := by omega
          have hk1' : (k' : Int) < (i : Int) := by omega
          have hp0 : (0 : Int) ≤ (p : Int) := by omega
          have hp1 : (p : Int) < (n : Int) := by have := HI.out.len; omega
          clear h0 u0 u1 u2 u3 v0 v1 v2 v3 hc0 hc1 cA0 hp
          cases r with
          | true =>
            have HAF2 : Hid (∀ j, k' ≤ j → j < i → befI vs (i : Int) (os.getD j 0)) := Lib.hid (fun j h1 h2 => by
              rcases Nat.eq_or_lt_of_le h1 with rfl | h3
              · exact HBF.out.2 (of_decide_eq_true HR.out)
              · exact hAf.out j h3 h2)
            clear hAf HR HBF
            go_wp2_with fail
            refine wp_region_quiet_below (by kernel_rfl) (by kernel_rfl) ?_
            repeat (go_big_quiet_step (first | (go_at_call 93; exact cA _ _)))
            refine wpQuiet_nil ?_
            intro wi hw'
            have HBJ : Hid (Below wo.heap.size wo wi) := Lib.hid (by obtain ⟨p, e⟩ := hw'; rw [e]; exact HBI.out.trans ((below_regrown wr p.d p.os).mono HBI.out.size))
            clear hw' cA O0 O1 U0 U1 U2 U3 V0 V1 V2 V3
            go_wp2_with fail
            go_roundw
            case rel => exact ⟨k', by omega, by go_num, HAF2, HBJ.out⟩
            case measure => simp [intOf]
          | false =>
            have HORD := Lib.hid (HINS.out (k' + 1) hk hAf.out (fun _ hb => by rw [Nat.add_sub_cancel] at hb; exact of_decide_eq_false HR.out (HBF.out.1 hb)))
            go_wp2_with fail
            refine wp_region_quiet_below (by kernel_rfl) (by kernel_rfl) ?_
            repeat (go_big_quiet_step (first | (go_at_call 93; exact cA _ _)))
            refine wpQuiet_nil ?_
            intro wi hw'
            have HBJ : Hid (Below wo.heap.size wo wi) := Lib.hid (by obtain ⟨p, e⟩ := hw'; rw [e]; exact HBI.out.trans ((below_regrown wr p.d p.os).mono HBI.out.size))
            clear hw' cA O0 O1 U0 U1 U2 U3 V0 V1 V2 V3 HR HBF
            obtain ⟨k, hkk⟩ : ∃ k, k = k' + 1 := ⟨_, rfl⟩
            have hkc : (k' : Int) + 1 = (k : Int) := by rw [hkk]; simp
            rw [← hkk] at HORD hk hAf
            rw [← hkk]
            have hkn2 : (k : Int) ≤ (i : Int) := by omega
            have hkn3 : (0 : Int) ≤ (k : Int) := by omega
            clear hkn0 hkn1 hkp hkc hkk
            have hcp : i ≤ cp := by
              rcases HOW.out.2 with ⟨e, -⟩ | ⟨g', cap', cur, e, -, -, h1, -⟩
              · cases e
              · injection e with e1 e2 e3; omega
            have hkcp : k ≤ cp := by omega
            have HX : Hid (∀ W, Below wi.heap.size wi W → ∀ j u, (os.map (Value.int .i64))[j]? = some u → W.cell? ⟨g0, j, none⟩ = some u) := Lib.hid (fun W hq j u hu => by
              obtain ⟨a0, ea0, -, hc0⟩ := HCE.out W (HBJ.out.trans (hq.mono HBJ.out.size)) j u hu
              injection ea0 with ea0
              subst ea0
              rwa [addO, Nat.zero_add] at hc0)
            have HXL : Hid ((os.map (Value.int .i64)).length = i) := Lib.hid (by rw [List.length_map, hOL.out])
            have HXS : Hid ((os.take k ++ [(i : Int)] ++ os.drop k).map (Value.int .i64) = (os.map (Value.int .i64)).take k ++ [.int .i64 (i : Int)] ++ (os.map (Value.int .i64)).drop k) := Lib.hid (by simp [List.map_take, List.map_drop])
            have HXO : Hid (∀ u ∈ os.map (Value.int .i64), u.oneCell' = true) := Lib.hid (fun u hu => by obtain ⟨q, -, rfl⟩ := List.mem_map.1 hu; rfl)
            generalize os.map (Value.int .i64) = xs at HX HXL HXS HXO
            have HT1 : Hid ((xs.take k).length = k * 1) := Lib.hid (by rw [List.length_take, HXL.out]; omega)
            have HT2 : Hid ((xs.drop k).length = (i - k) * 1) := Lib.hid (by rw [List.length_drop, HXL.out]; omega)
            have HO1 : Hid (∀ u ∈ xs.take k, u.oneCell' = true) := Lib.hid (fun u hu => HXO.out u (List.mem_of_mem_take hu))
            have HO2 : Hid (∀ u ∈ xs.drop k, u.oneCell' = true) := Lib.hid (fun u hu => HXO.out u (List.mem_of_mem_drop hu))
            have HN1 : Hid (∀ W, Below wi.heap.size wi W → ∀ j u, (xs.take k)[j]? = some u → W.cell? ((⟨g0, 0, none⟩ : Addr).add j) = some u) := Lib.hid (fun W hq j u hu => by
              rw [addO, Nat.zero_add]
              refine HX.out W hq j u ?_
              rw [List.getElem?_take] at hu
              split at hu
              · exact hu
              · cases hu)
            obtain ⟨aq, haq⟩ : ∃ aq, (if cp = k then some ⟨g0, 0, none⟩ else some ⟨g0, k, none⟩ : Option Addr) = some aq := by split <;> exact ⟨_, rfl⟩
            have HAQ := Lib.hid haq
            have HN2 : Hid (∀ W, Below wi.heap.size wi W → ∀ j u, (xs.drop k)[j]? = some u → W.cell? (aq.add j) = some u) := Lib.hid (fun W hq j u hu => by
              have hjl := (List.getElem?_eq_some_iff.1 hu).1
              rw [List.length_drop, HXL.out] at hjl
              have haq2 := HAQ.out
              rw [if_neg (by omega)] at haq2
              injection haq2 with haq2
              subst haq2
              rw [addO]
              rw [List.getElem?_drop] at hu
              exact HX.out W hq (k + j) u hu)
            clear haq
            have hki : k + 1 + (i - k) = i + 1 := by omega
            clear HCE HINS HX HXO HXL hAf HBI HBW hM HOW CF hOL HMM
            go_wp2_with fail
            refine region_inv (by kernel_rfl) (by kernel_rfl) (fun Fl9 ac W => ∃ (x34 x35 x36 x37 x38 x39 x40 x41 x42 x43 x44 x45 x3 : Value), ac = { tmps := #[Value.slice (some aU) n c, undef, Value.slice none 0 0, x3, Value.int IntKind.i64 (i : Int), Value.int IntKind.i64 (k : Int), Value.slice (some ⟨w.heap.size, 0, none⟩) 0 0, Value.int IntKind.i64 (i : Int), Value.slice (some aU) n c, Value.int IntKind.i64 (n : Int), Value.bool true, u11, u12, Value.slice (some ⟨g0, 0, none⟩) i cp, Value.int IntKind.i64 (i : Int), Value.int IntKind.i64 (k : Int), Value.bool true, Value.bool true, Value.slice (some aU) n c, Value.int IntKind.i64 (i : Int), Value.pointer (some (aU.add (i * 4))), Value.agg #[Value.int IntKind.i64 vd, Value.bool vu, Value.int IntKind.i64 vm, Value.int IntKind.i64 vg], Value.slice (some aU) n c, Value.slice (some ⟨g0, 0, none⟩) i cp, Value.int IntKind.i64 (k : Int), Value.int IntKind.i64 (k' : Int), Value.pointer (some ⟨g0, k', none⟩), Value.int IntKind.i64 (p : Int), Value.pointer (some (aU.add (p * 4))), Value.agg #[Value.int IntKind.i64 ud, Value.bool uu, Value.int IntKind.i64 um, Value.int IntKind.i64 ug], Value.bool false, Value.bool false, u32, u33, x34, x35, x36, x37, x38, x39, x40, x41, x42, x43, x44, x45, undef], defers := [] } ∧ Below wi.heap.size wi W ∧
                  (Fl9 0 = true → Fl9 4 = false → ∃ g, x34 = .slice (some ⟨g, 0, none⟩) 0 0 ∧ W.ownsRow wi.heap.size 3 1 (.slice (some ⟨g, 0, none⟩) 0 0) 0 []) ∧
                  (Fl9 1 = true → x35 = .slice (some ⟨g0, 0, none⟩) i cp) ∧
                  (Fl9 2 = true → x36 = .int .i64 (k : Int)) ∧
                  (Fl9 3 = true → x37 = .slice (some ⟨g0, 0, none⟩) k cp) ∧
                  (Fl9 4 = true → Fl9 7 = false → ∃ g c9, x38 = .slice (some ⟨g, 0, none⟩) k c9 ∧ W.ownsRow wi.heap.size 3 1 (.slice (some ⟨g, 0, none⟩) k c9) k (xs.take k)) ∧
                  (Fl9 5 = true → x39 = .int .i64 (i : Int)) ∧
                  (Fl9 6 = true → Fl9 7 = false → ∃ g, x40 = .slice (some ⟨g, 0, none⟩) 1 1 ∧ ∀ j u, [Value.int .i64 (i : Int)][j]? = some u → W.cell? ((⟨g, 0, none⟩ : Addr).add j) = some u) ∧
                  (Fl9 7 = true → Fl9 11 = false → ∃ g c9, x41 = .slice (some ⟨g, 0, none⟩) (k + 1) c9 ∧ W.ownsRow wi.heap.size 3 1 (.slice (some ⟨g, 0, none⟩) (k + 1) c9) (k + 1) (xs.take k ++ [.int .i64 (i : Int)])) ∧
                  (Fl9 8 = true → x42 = .slice (some ⟨g0, 0, none⟩) i cp) ∧
                  (Fl9 9 = true → x43 = .int .i64 (k : Int)) ∧
                  (Fl9 10 = true → x44 = .slice (some aq) (i - k) (cp - k)) ∧
                  (Fl9 11 = true → ∃ g c9, x45 = .slice (some ⟨g, 0, none⟩) (i + 1) c9 ∧ wi.heap.size ≤ g ∧ W.ownsRow wi.heap.size 3 1 (.slice (some ⟨g, 0, none⟩) (i + 1) c9) (i + 1) (xs.take k ++ [.int .i64 (i : Int)] ++ xs.drop k)) ∧
                  (Fl9 12 = true → ∃ g c9, x3 = .slice (some ⟨g, 0, none⟩) (i + 1) c9 ∧ wi.heap.size ≤ g ∧ W.ownsRow wi.heap.size 3 1 (.slice (some ⟨g, 0, none⟩) (i + 1) c9) (i + 1) (xs.take k ++ [.int .i64 (i : Int)] ++ xs.drop k)) ∧
                  (Fl9 12 = true → Fl9 1 = true ∧ Fl9 8 = true) ∧
                  (Fl9 12 = false → x3 = .slice (some ⟨g0, 0, none⟩) i cp) ∧
                  (Fl9 7 = true → Fl9 4 = true) ∧
                  (Fl9 11 = true → Fl9 7 = true) ∧
                  (Fl9 12 = true → Fl9 11 = true)) ?_ ?_ ?_
            · exact ⟨_, _, _, _, _, _, _, _, _, _, _, _, _, rfl, (Drawn.one wi 1).below _, (fun q0 => nomatch q0), (fun q0 => nomatch q0), (fun q0 => nomatch q0), (fun q0 => nomatch q0), (fun q0 => nomatch q0), (fun q0 => nomatch q0), (fun q0 => nomatch q0), (fun q0 => nomatch q0), (fun q0 => nomatch q0), (fun q0 => nomatch q0), (fun q0 => nomatch q0), (fun q0 => nomatch q0), (fun q0 => nomatch q0), (fun q0 => nomatch q0), (fun _ => rfl), (fun q0 => nomatch q0), (fun q0 => nomatch q0), (fun q0 => nomatch q0)⟩
            · intro Fl9 ac W i9 o9 hJ ho hL hdep K9 hK
              obtain ⟨x34, x35, x36, x37, x38, x39, x40, x41, x42, x43, x44, x45, x3, rfl, hB, hh0, hh1, hh2, hh3, hh4, hh5, hh6, hh7, hh8, hh9, hh10, hh11, hh12, hx0, hx1, hx2, hx3, hx4⟩ := hJ
              have hi9 : i9 < 13 := by simpa using (Array.getElem?_eq_some_iff.1 ho).1
              obtain rfl | rfl | rfl | rfl | rfl | rfl | rfl | rfl | rfl | rfl | rfl | rfl | rfl : i9 = 0 ∨ i9 = 1 ∨ i9 = 2 ∨ i9 = 3 ∨ i9 = 4 ∨ i9 = 5 ∨ i9 = 6 ∨ i9 = 7 ∨ i9 = 8 ∨ i9 = 9 ∨ i9 = 10 ∨ i9 = 11 ∨ i9 = 12 := by omega
              · -- operation 0
                cases ho
                go_simp
                exact hK _ _ ⟨_, _, _, _, _, _, _, _, _, _, _, _, _, rfl, hB.trans ((Below.alloc (Below.refl W.heap.size W) (Nat.le_refl _) _).mono hB.size), fun _ _ => ⟨_, rfl, own_low (World.ownsRow_made W #[] 0 (Nat.le_refl _) (by unfold maxLen; omega) rfl) hB.size⟩, hh1, hh2, hh3, fun q0 r0 => (fun ⟨g, c9, e, o⟩ => ⟨g, c9, e, own_below o (Below.alloc (Below.refl W.heap.size W) (Nat.le_refl _) _)⟩) (hh4 q0 r0), hh5, fun q0 r0 => (fun ⟨g, e, h⟩ => ⟨g, e, fun j u hu => (Below.cell (Below.alloc (Below.refl W.heap.size W) (Nat.le_refl _) _) (World.block_lt_of_cell? W _ (h j u hu))).trans (h j u hu)⟩) (hh6 q0 r0), fun q0 r0 => (fun ⟨g, c9, e, o⟩ => ⟨g, c9, e, own_below o (Below.alloc (Below.refl W.heap.size W) (Nat.le_refl _) _)⟩) (hh7 q0 r0), hh8, hh9, hh10, fun q0 => (fun ⟨g, c9, e, h, o⟩ => ⟨g, c9, e, h, own_below o (Below.alloc (Below.refl W.heap.size W) (Nat.le_refl _) _)⟩) (hh11 q0), fun q0 => (fun ⟨g, c9, e, h, o⟩ => ⟨g, c9, e, h, own_below o (Below.alloc (Below.refl W.heap.size W) (Nat.le_refl _) _)⟩) (hh12 q0), hx0, hx1, hx2, hx3, hx4⟩
              · -- operation 1
                cases ho
                have hx9 : Fl9 12 = false := by
                  cases hc9 : Fl9 12 with
                  | false => rfl
                  | true => exact absurd (hx0 hc9).1 (by rw [hL]; simp)
                obtain rfl := hx1 hx9
                go_simp
                exact hK _ _ ⟨_, _, _, _, _, _, _, _, _, _, _, _, _, rfl, hB, hh0, fun _ => rfl, hh2, hh3, hh4, hh5, hh6, hh7, hh8, hh9, hh10, hh11, hh12, fun q0 => ⟨rfl, (hx0 q0).2⟩, hx1, hx2, hx3, hx4⟩
              · -- operation 2
                cases ho
                go_simp
                exact hK _ _ ⟨_, _, _, _, _, _, _, _, _, _, _, _, _, rfl, hB, hh0, hh1, fun _ => rfl, hh3, hh4, hh5, hh6, hh7, hh8, hh9, hh10, hh11, hh12, hx0, hx1, hx2, hx3, hx4⟩
              · -- operation 3
                cases ho
                obtain rfl := hh1 (hdep ⟨1, .data⟩ (by simp) rfl)
                obtain rfl := hh2 (hdep ⟨2, .data⟩ (by simp) rfl)
                go_simp
                exact hK _ _ ⟨_, _, _, _, _, _, _, _, _, _, _, _, _, rfl, hB, hh0, hh1, hh2, fun _ => rfl, hh4, hh5, hh6, hh7, hh8, hh9, hh10, hh11, hh12, hx0, hx1, hx2, hx3, hx4⟩
              · -- operation 4
                cases ho
                have hd0 := hdep ⟨0, .data⟩ (by simp) rfl
                obtain ⟨g9, rfl, oe⟩ := hh0 hd0 hL
                obtain rfl := hh3 (hdep ⟨3, .data⟩ (by simp) rfl)
                refine step_append rfl (.tmp 34) (.tmp 37) 46 rfl wi.heap.size 3 i0 (.int .i64 0) 1 8 Try.underlying46 hi hz0 hz1 hz2 rfl (by decide) _ 0 _ rfl oe ⟨g0, 0, none⟩ k cp (xs.take k) rfl HT1.out (HN1.out W hB) HO1.out (by unfold maxLen; omega) (by omega) hB.size (fun e => nomatch e) ?_
                intro g1 cap w9 hown hgr
                rw [Nat.zero_add, List.nil_append] at hown
                rw [Nat.zero_add]
                have keep6 : (∃ g, x40 = .slice (some ⟨g, 0, none⟩) 1 1 ∧ ∀ j u, [Value.int .i64 (i : Int)][j]? = some u → W.cell? ((⟨g, 0, none⟩ : Addr).add j) = some u) → ∃ g, x40 = .slice (some ⟨g, 0, none⟩) 1 1 ∧ ∀ j u, [Value.int .i64 (i : Int)][j]? = some u → w9.cell? ((⟨g, 0, none⟩ : Addr).add j) = some u := fun ⟨gq, e, h⟩ => ⟨gq, e, keep_empty oe hgr h⟩
                exact hK _ _ ⟨_, _, _, _, _, _, _, _, _, _, _, _, _, rfl, hB.grown hgr hB.size (fun q e => (oe.lt q e).1), (fun _ q0 => nomatch q0), hh1, hh2, hh3, fun _ => fun _ => ⟨_, _, rfl, hown⟩, hh5, (fun q0 r0 => keep6 (hh6 q0 r0)), (fun q0 => absurd (hx2 q0) (by rw [hL]; simp)), hh8, hh9, hh10, (fun q0 => absurd (hx2 (hx3 q0)) (by rw [hL]; simp)), (fun q0 => absurd (hx2 (hx3 (hx4 q0))) (by rw [hL]; simp)), hx0, hx1, fun _ => rfl, hx3, hx4⟩
              · -- operation 5
                cases ho
                go_simp
                exact hK _ _ ⟨_, _, _, _, _, _, _, _, _, _, _, _, _, rfl, hB, hh0, hh1, hh2, hh3, hh4, fun _ => rfl, hh6, hh7, hh8, hh9, hh10, hh11, hh12, hx0, hx1, hx2, hx3, hx4⟩
              · -- operation 6
                cases ho
                obtain rfl := hh5 (hdep ⟨5, .data⟩ (by simp) rfl)
                go_simp
                exact hK _ _ ⟨_, _, _, _, _, _, _, _, _, _, _, _, _, rfl, hB.trans ((Below.alloc (Below.refl W.heap.size W) (Nat.le_refl _) _).mono hB.size), fun q0 r0 => (fun ⟨g, e, o⟩ => ⟨g, e, own_below o (Below.alloc (Below.refl W.heap.size W) (Nat.le_refl _) _)⟩) (hh0 q0 r0), hh1, hh2, hh3, fun q0 r0 => (fun ⟨g, c9, e, o⟩ => ⟨g, c9, e, own_below o (Below.alloc (Below.refl W.heap.size W) (Nat.le_refl _) _)⟩) (hh4 q0 r0), hh5, fun _ _ => ⟨_, rfl, cell_one_new W _ _⟩, fun q0 r0 => (fun ⟨g, c9, e, o⟩ => ⟨g, c9, e, own_below o (Below.alloc (Below.refl W.heap.size W) (Nat.le_refl _) _)⟩) (hh7 q0 r0), hh8, hh9, hh10, fun q0 => (fun ⟨g, c9, e, h, o⟩ => ⟨g, c9, e, h, own_below o (Below.alloc (Below.refl W.heap.size W) (Nat.le_refl _) _)⟩) (hh11 q0), fun q0 => (fun ⟨g, c9, e, h, o⟩ => ⟨g, c9, e, h, own_below o (Below.alloc (Below.refl W.heap.size W) (Nat.le_refl _) _)⟩) (hh12 q0), hx0, hx1, hx2, hx3, hx4⟩
              · -- operation 7
                cases ho
                have hd4 := hdep ⟨4, .data⟩ (by simp) rfl
                obtain ⟨g9, c9, rfl, oe⟩ := hh4 hd4 hL
                have hd6 := hdep ⟨6, .data⟩ (by simp) rfl
                obtain ⟨gn, rfl, hnew⟩ := hh6 hd6 hL
                refine step_append rfl (.tmp 38) (.tmp 40) 46 rfl wi.heap.size 3 i0 (.int .i64 0) 1 8 Try.underlying46 hi hz0 hz1 hz2 rfl (by decide) _ k _ rfl oe ⟨gn, 0, none⟩ 1 1 [.int .i64 (i : Int)] rfl rfl hnew (by simp [Value.oneCell']) (by unfold maxLen; omega) (by omega) hB.size (fun e => nomatch e) ?_
                intro g1 cap w9 hown hgr
                exact hK _ _ ⟨_, _, _, _, _, _, _, _, _, _, _, _, _, rfl, hB.grown hgr hB.size (fun q e => (oe.lt q e).1), (fun _ q0 => absurd ((show Fl9 4 = false from q0).symm.trans hd4) (by simp)), hh1, hh2, hh3, (fun _ q0 => nomatch q0), hh5, (fun _ q0 => nomatch q0), fun _ => fun _ => ⟨_, _, rfl, hown⟩, hh8, hh9, hh10, (fun q0 => absurd (hx3 q0) (by rw [hL]; simp)), (fun q0 => absurd (hx3 (hx4 q0)) (by rw [hL]; simp)), hx0, hx1, fun _ => hd4, fun _ => rfl, hx4⟩
              · -- operation 8
                cases ho
                have hx9 : Fl9 12 = false := by
                  cases hc9 : Fl9 12 with
                  | false => rfl
                  | true => exact absurd (hx0 hc9).2 (by rw [hL]; simp)
                obtain rfl := hx1 hx9
                go_simp
                exact hK _ _ ⟨_, _, _, _, _, _, _, _, _, _, _, _, _, rfl, hB, hh0, hh1, hh2, hh3, hh4, hh5, hh6, hh7, fun _ => rfl, hh9, hh10, hh11, hh12, fun q0 => ⟨(hx0 q0).1, rfl⟩, hx1, hx2, hx3, hx4⟩
              · -- operation 9
                cases ho
                go_simp
                exact hK _ _ ⟨_, _, _, _, _, _, _, _, _, _, _, _, _, rfl, hB, hh0, hh1, hh2, hh3, hh4, hh5, hh6, hh7, hh8, fun _ => rfl, hh10, hh11, hh12, hx0, hx1, hx2, hx3, hx4⟩
              · -- operation 10
                cases ho
                obtain rfl := hh8 (hdep ⟨8, .data⟩ (by simp) rfl)
                obtain rfl := hh9 (hdep ⟨9, .data⟩ (by simp) rfl)
                go_simp
                exact hK _ _ ⟨_, _, _, _, _, _, _, _, _, _, _, _, _, rfl, hB, hh0, hh1, hh2, hh3, hh4, hh5, hh6, hh7, hh8, hh9, fun _ => (by rw [HAQ.out]), hh11, hh12, hx0, hx1, hx2, hx3, hx4⟩
              · -- operation 11
                cases ho
                have hd7 := hdep ⟨7, .data⟩ (by simp) rfl
                obtain ⟨g9, c9, rfl, oe⟩ := hh7 hd7 hL
                obtain rfl := hh10 (hdep ⟨10, .data⟩ (by simp) rfl)
                refine step_append rfl (.tmp 41) (.tmp 44) 46 rfl wi.heap.size 3 i0 (.int .i64 0) 1 8 Try.underlying46 hi hz0 hz1 hz2 rfl (by decide) _ (k + 1) _ rfl oe aq (i - k) (cp - k) (xs.drop k) rfl HT2.out (HN2.out W hB) HO2.out (by unfold maxLen; omega) (by omega) hB.size (fun e => nomatch e) ?_
                intro g1 cap w9 hown hgr
                rw [hki] at hown ⊢
                exact hK _ _ ⟨_, _, _, _, _, _, _, _, _, _, _, _, _, rfl, hB.grown hgr hB.size (fun q e => (oe.lt q e).1), (fun _ q0 => absurd ((show Fl9 4 = false from q0).symm.trans (hx2 hd7)) (by simp)), hh1, hh2, hh3, (fun _ q0 => absurd ((show Fl9 7 = false from q0).symm.trans hd7) (by simp)), hh5, (fun _ q0 => absurd ((show Fl9 7 = false from q0).symm.trans hd7) (by simp)), (fun _ q0 => nomatch q0), hh8, hh9, hh10, fun _ => ⟨_, _, rfl, (hown.lt g1 rfl).1, hown⟩, (fun q0 => absurd (hx4 q0) (by rw [hL]; simp)), hx0, hx1, hx2, fun _ => hd7, fun _ => rfl⟩
              · -- operation 12
                cases ho
                have hd11 := hdep ⟨11, .data⟩ (by simp) rfl
                obtain ⟨g9, c9, rfl, hg9, ho9⟩ := hh11 hd11
                go_simp
                exact hK _ _ ⟨_, _, _, _, _, _, _, _, _, _, _, _, _, rfl, hB, hh0, hh1, hh2, hh3, hh4, hh5, hh6, hh7, hh8, hh9, hh10, hh11, fun _ => ⟨_, _, rfl, hg9, ho9⟩, fun _ => ⟨hdep ⟨1, .phase⟩ (by simp) rfl, hdep ⟨8, .phase⟩ (by simp) rfl⟩, (fun q0 => nomatch q0), hx2, hx3, fun _ => hd11⟩
            intro Fl9 ac W hJ hall
            obtain ⟨x34, x35, x36, x37, x38, x39, x40, x41, x42, x43, x44, x45, x3, rfl, hB, hh0, hh1, hh2, hh3, hh4, hh5, hh6, hh7, hh8, hh9, hh10, hh11, hh12, -, -, -, -, -⟩ := hJ
            obtain rfl := hh1 (hall 1 (by decide))
            obtain rfl := hh2 (hall 2 (by decide))
            obtain rfl := hh3 (hall 3 (by decide))
            obtain rfl := hh5 (hall 5 (by decide))
            obtain rfl := hh8 (hall 8 (by decide))
            obtain rfl := hh9 (hall 9 (by decide))
            obtain rfl := hh10 (hall 10 (by decide))
            clear hh0
            clear hh4
            clear hh6
            clear hh7
            clear hh11
            obtain ⟨gf, cf, rfl, hgf, hof⟩ := hh12 (hall 12 (by decide))
            clear hall
            have HBE := Lib.hid (HBJ.out.trans (hB.mono HBJ.out.size))
            have HOF := Lib.hid hof
            clear hof hB HN1 HN2 HO1 HO2 HT1 HT2
            go_wp2_with fail
            go_roundw
            case rel => exact ⟨i + 1, gf, cf, os.take k ++ [(i : Int)] ++ os.drop k, by omega, by go_num, HORD, rfl, Nat.le_trans (Nat.le_trans HB.out.size HBJ.out.size) hgf, by rw [HXS.out]; exact own_low HOF.out (Nat.le_trans HB.out.size HBJ.out.size), HB.out.trans (HBE.out.mono HB.out.size)⟩
            case measure => simp [intOf]; omega
    · obtain rfl : i = n := by omega
      have HP := Lib.hid (And.intro hg0 (And.intro hown hb))
      clear hown hb
      go_wp2_with fail
      go_ret
      exact ⟨_, os, rfl, hM.out, g0, cp, rfl, HP.out.1, HP.out.2.1, HP.out.2.2⟩
set_option maxHeartbeats 2000000 in
theorem comeS_any {w : World} {B : Nat} {A : Option Addr} {n : Nat} {vs : List TArrival} (c : Nat) (h : IsArrivals w B A n vs) (hm : n ≤ 1048576) (L : List Int) (x : Bool) (hA : ComeA vs L x) (l : Nat) (hl : L.length = l) :
    Calls Try.prog 30 #[.slice A n c] w (GivesZ w L l x) := by
  have C := Lib.hid (l8Good_any c h (Nat.le_trans hm (by unfold maxLen; omega)))
  have HI := Lib.hid h
  have HNO := Lib.hid hA.2
  have HYES := Lib.hid hA.1
  have HM := Lib.hid hl
  obtain ⟨G, hG⟩ : ∃ G, gAs vs = G := ⟨_, rfl⟩
  rw [hG] at HNO HYES C
  have HGE := Lib.hid hG
  clear h hA hG hl
  go_enter Try.func30, Try.ntmps30
  go_wp2_with fail
  refine C.out.mono ?_
  rintro e w1 ⟨rfl, hb⟩
  have HB1 := Lib.hid hb
  clear hb C
  cases G with
  | false =>
    obtain ⟨rfl, rfl⟩ := HNO.out rfl
    obtain rfl : 0 = l := HM.out
    clear HNO HYES
    go_wp2_with fail
    refine bodyPost_ret (results_tmp2 rfl _ _ _) rfl ?_
    exact (OwnZ.nil HB1.out).gives false
  | true =>
  obtain ⟨hL, rfl⟩ := HYES.out rfl
  have HL := Lib.hid hL
  have CF := Lib.hid (l8FirstCome_any c (HI.out.below HB1.out HI.out.low) ((gAs_iff vs).1 HGE.out))
  obtain rfl : n = l := by rw [← HM.out, hL.len, HI.out.len]
  clear HNO HYES hL
  go_wp2_with fail
  refine CF.out.mono ?_
  rintro e w2 ⟨v, os, rfl, hos, hO⟩
  obtain rfl : os = L := by have h1 := HL.out; rw [HI.out.len] at h1; exact first_one hos h1
  have HO := Lib.hid (hO.base HB1.out)
  clear hO CF HB1 hos
  go_wp2_with fail
  refine bodyPost_ret (results_tmp2 rfl _ _ _) rfl ?_
  exact HO.out.gives true
end Go.Proofs.Ytdleidlmjliapaa
