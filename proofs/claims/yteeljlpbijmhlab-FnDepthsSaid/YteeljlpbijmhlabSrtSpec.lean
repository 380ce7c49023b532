/- Chapter 3, the model: OrderVessels. -/
import Derived.Test.YteeljlpbijmhlabSrtMath
import Derived.Test.YteeljlpbijmhlabInv
namespace Go.Proofs.Yteeljlpbijmhlab
open Go.RowKit Go.PlainAid Go.Sort
set_option linter.unusedVariables false
set_option linter.unusedSimpArgs false

theorem keep_empty {w w' : World} {base g gq : Nat} {e : TypeId} {xs : List Value} (h : w.ownsRow base e 1 (.slice (some ⟨g, 0, none⟩) 0 0) 0 []) (hgr : w.grownBy w' (some g))
    (k : ∀ j u, xs[j]? = some u → w.cell? ((⟨gq, 0, none⟩ : Addr).add j) = some u) : ∀ j u, xs[j]? = some u → w'.cell? ((⟨gq, 0, none⟩ : Addr).add j) = some u := by
  intro j u hu
  have hc := k j u hu
  have hlt := World.block_lt_of_cell? w _ hc
  have hb : ((⟨gq, 0, none⟩ : Addr).add j).block = gq := by unfold Addr.add; split <;> rfl
  rw [hb] at hlt
  have hne : gq ≠ g := by
    rintro rfl
    rcases h.2 with ⟨e1, -⟩ | ⟨g', cap', cur, hv, -, hbk, -, -, hcs, -⟩
    · cases e1
    · cases hv
      have h0 : cur.size = 0 := by simpa using hcs
      unfold World.cell? at hc
      rw [hb, hbk] at hc
      simp only at hc
      split at hc
      · cases hc
      · rw [Array.getElem?_eq_none (by omega)] at hc; cases hc
  rw [← hc]
  exact World.cell?_of_block (by rw [hb]; exact hgr.block gq hlt (fun e => hne (by cases e; rfl)))

set_option maxRecDepth 100000 in
set_option maxHeartbeats 8000000 in
theorem specOrd_any {w : World} {B : Nat} {a : Addr} {n : Nat} {vs : List Ves} (c : Nat) (h : IsVs w B (some a) n vs) (hm : n ≤ maxLen) (L : List Int) (x : Bool) (hO : Ordered vs L x) :
    Calls Try.prog 18 #[.slice (some a) n c] w (GivesInts w L x) := by
  obtain ⟨i0, hi, hz0, hz1, hz2⟩ := info_parts Try.infoInt'
  have C := Lib.hid (fun (W : World) (hb : Below w.heap.size w W) => l3Fleet_vs c (h.below hb h.low) hm)
  have CF := Lib.hid (fun (W : World) (hb : Below w.heap.size w W) (t v : Int) (hv : fnd vs t n = v) => (l3Find_any (some a) n c w.heap.size vs t W h.len hm (h.all.below hb (Nat.le_refl _)).has).mono (fun e w' (hq : e = .returned (.int .i64 (fnd vs t n)) ∧ W = w') => (show e = .returned (.int .i64 v) ∧ Below W.heap.size W w' from ⟨hv ▸ hq.1, hq.2 ▸ Below.refl _ _⟩)))
  have HI := Lib.hid h
  have HNO := Lib.hid hO.2
  have HYES : Hid (gF vs = true → x = true ∧ (∀ M, InOrd vs M → L = M.map (·.id)) ∧ goodF vs) := Lib.hid (fun e => ⟨(hO.1 e).1, (hO.1 e).2, (gF_iff vs).1 e⟩)
  have HGF := Lib.hid (fun g : goodF vs => gF_yes g)
  generalize gF vs = b1 at C HNO HYES
  unfold maxLen at hm
  clear hO h
  go_enter Try.func18, Try.ntmps18
  go_wp2_with fail
  refine (C.out _ ((Below.refl _ _).alloc (Nat.le_refl _) _)).mono ?_
  rintro e w1 ⟨rfl, hb⟩
  have P1 := Lib.hid ((OwnL.nil (Below.refl w.heap.size w)).below hb)
  clear hb C
  cases b1 with
  | false =>
    obtain ⟨rfl, rfl⟩ := HNO.out rfl
    clear HNO HYES
    go_wp2_with fail
    refine bodyPost_ret (results_tmp2 rfl _ _ _) rfl ?_
    exact P1.out.gives false
  | true =>
  obtain ⟨rfl, hL, hg⟩ := HYES.out rfl
  have HLM := Lib.hid hL
  have HG := Lib.hid hg
  have hn8 : n ≤ 8 := by have := hg.1; rw [HI.out.len] at this; exact this
  clear HNO HYES hg hL
  have ST : Hid (∃ cp, w1.ownsRow w.heap.size 3 1 (.slice (some ⟨w.heap.size, 0, none⟩) 0 0) 0 [] ∧ cp = 0 ∧ Below w.heap.size w w1) := Lib.hid (by
    obtain ⟨g9, c9, e9, hg9, ho9, hb9⟩ := P1.out
    injection e9 with e91 e92 e93
    subst e93
    injection e91 with e91
    injection e91 with e91 _ _
    subst e91
    exact ⟨0, ho9, rfl, hb9⟩)
  clear P1
  go_wp2_with fail
  go_loopw [4, 5] (fun o v wr => ∃ (i g0 cp : Nat) (M : List Ves), i ≤ n ∧ v = .int .i64 i ∧ Hid (InOrd (vs.take i) M) ∧ o = .slice (some ⟨g0, 0, none⟩) i cp ∧ w.heap.size ≤ g0 ∧
      wr.ownsRow w.heap.size 3 1 (.slice (some ⟨g0, 0, none⟩) i cp) i ((M.map (·.id)).map (.int .i64)) ∧ Below w.heap.size w wr) (fun _ v _ => n - (intOf v).toNat)
  case atStart => exact ⟨0, _, 0, [], Nat.zero_le _, rfl, Lib.hid (inOrd_nil vs), rfl, Nat.le_refl _, by obtain ⟨_, h1, _, _⟩ := ST.out; exact h1, by obtain ⟨_, _, _, h1⟩ := ST.out; exact h1⟩
  case round =>
    clear ST
    obtain ⟨i, g0, cp, M, hin, rfl, hM, rfl, hg0, hown, hb⟩ := hrel
    by_cases hlt : i < n
    · have hil : i < vs.length := by rw [HI.out.len]; exact hlt
      have hML : M.length = i := inOrd_len hM.out (by omega)
      have HB := Lib.hid hb
      have HOW := Lib.hid hown
      have hi0 : (0 : Int) ≤ (i : Int) := by omega
      have hi1 : (i : Int) < (n : Int) := by omega
      have hi8 : (i : Int) ≤ 8 := by omega
      clear hb hown
      generalize wr = wo at *
      have HV := Lib.hid (fun W (hq : Below w.heap.size w W) => (HI.out.all.has.below hq).ves hil)
      have HAT := Lib.hid (fun j (hj : j < i) => inOrd_at (vs := vs) (M := M) (i := i) (j := j) (HGF.out HG.out) hM.out hil (by omega))
      have HCE := Lib.hid (fun W (hq : Below wo.heap.size wo W) => (Has.of_own HOW.out).below hq)
      have HINS := Lib.hid (fun k (hk : k ≤ i) => ins_ord (vs := vs) (M := M) (k := k) (i := i) hil hM.out (by omega))
      have HVB := Lib.hid (cell_bd (HG.out.2 i hil).1)
      have HPB := Lib.hid (fun p (hp : p < vs.length) => cell_bd (HG.out.2 p hp).1)
      obtain ⟨V, hV⟩ : ∃ V, vs.getD i noVes = V := ⟨_, rfl⟩
      have HVE := Lib.hid hV
      rw [hV] at HV HAT HINS HVB
      clear hV
      obtain ⟨vi, vsn, vl, vb, vd, vq⟩ := V
      dsimp only at HVB
      go_wp2_with fail
      go_loopw [6] (fun v wi => ∃ k : Nat, k ≤ i ∧ v = .int .i64 k ∧ Hid (∀ j, k ≤ j → j < i → ¬ Ahead (M.getD j noVes) ⟨vi, vsn, vl, vb, vd, vq⟩) ∧ Below wo.heap.size wo wi) (fun v _ => (intOf v).toNat)
      case atStart => exact ⟨i, Nat.le_refl _, rfl, Lib.hid (fun j h1 h2 => absurd h1 (by omega)), Below.refl _ _⟩
      case round =>
        obtain ⟨k, hk, rfl, hAf, hbi⟩ := hrel
        have HBI := Lib.hid hbi
        have HBW := Lib.hid (HB.out.trans (hbi.mono HB.out.size))
        clear hbi
        have hkn0 : (0 : Int) ≤ (k : Int) := by omega
        have hkn1 : (k : Int) ≤ (i : Int) := by omega
        rcases Nat.eq_zero_or_pos k with h0 | h0
        · have hkz : ¬ 0 < k := by omega
          have HK0 := Lib.hid h0
          clear h0
          go_wp2_with fail
          refine wp_region_quiet_below (by kernel_rfl) (by kernel_rfl) ?_
          repeat (go_big_quiet_step (fail))
          refine wpQuiet_nil ?_
          intro wi hw'
          have HBJ : Hid (Below wo.heap.size wo wi) := Lib.hid (by obtain ⟨p, e⟩ := hw'; rw [e]; exact HBI.out.trans ((below_regrown wr p.d p.os).mono HBI.out.size))
          clear hw'
          have HORD := Lib.hid (HINS.out k hk (fun j h1 h2 => hAf.out j h1 (by omega)) (.inl HK0.out))
          have hcp : i ≤ cp := by
            rcases HOW.out.2 with ⟨e, -⟩ | ⟨g', cap', cur, e, -, -, h1, -⟩
            · cases e
            · injection e with e1 e2 e3; omega
          have hkcp : k ≤ cp := by omega
          have HVI : Hid (∀ W, Below wi.heap.size wi W → W.cell? (a.add (i * 6)) = some (.int .i64 vi)) := Lib.hid (fun W hq => by
            obtain ⟨aV, eV, -, hVV⟩ := HV.out W (HB.out.trans ((HBJ.out.trans (hq.mono HBJ.out.size)).mono HB.out.size))
            injection eV with eV
            subst eV
            exact hVV.c0)
          have HX : Hid (∀ W, Below wi.heap.size wi W → ∀ j u, ((M.map (·.id)).map (Value.int .i64))[j]? = some u → W.cell? ⟨g0, j, none⟩ = some u) := Lib.hid (fun W hq j u hu => by
            obtain ⟨a0, ea0, -, hc0⟩ := HCE.out W (HBJ.out.trans (hq.mono HBJ.out.size)) j u hu
            injection ea0 with ea0
            subst ea0
            rwa [show (⟨g0, 0, none⟩ : Addr).add j = ⟨g0, j, none⟩ from (by unfold Addr.add; split <;> simp_all)] at hc0)
          have HXL : Hid (((M.map (·.id)).map (Value.int .i64)).length = i) := Lib.hid (by rw [List.length_map, List.length_map, hML])
          have HXS : Hid (((M.take k ++ (⟨vi, vsn, vl, vb, vd, vq⟩ : Ves) :: M.drop k).map (·.id)).map (Value.int .i64) = ((M.map (·.id)).map (Value.int .i64)).take k ++ [.int .i64 vi] ++ ((M.map (·.id)).map (Value.int .i64)).drop k) := Lib.hid (by simp [List.map_take, List.map_drop])
          have HXO : Hid (∀ u ∈ ((M.map (·.id)).map (Value.int .i64)), u.oneCell' = true) := Lib.hid (fun u hu => by obtain ⟨q, -, rfl⟩ := List.mem_map.1 hu; rfl)
          generalize (M.map (·.id)).map (Value.int .i64) = xs at HX HXL HXS HXO
          have HT1 : Hid ((xs.take k).length = k * 1) := Lib.hid (by rw [List.length_take, HXL.out]; omega)
          have HT2 : Hid ((xs.drop k).length = (i - k) * 1) := Lib.hid (by rw [List.length_drop, HXL.out]; omega)
          have HO1 : Hid (∀ u ∈ xs.take k, u.oneCell' = true) := Lib.hid (fun u hu => HXO.out u (List.mem_of_mem_take hu))
          have HO2 : Hid (∀ u ∈ xs.drop k, u.oneCell' = true) := Lib.hid (fun u hu => HXO.out u (List.mem_of_mem_drop hu))
          have HN1 : Hid (∀ W, Below wi.heap.size wi W → ∀ j u, (xs.take k)[j]? = some u → W.cell? ((⟨g0, 0, none⟩ : Addr).add j) = some u) := Lib.hid (fun W hq j u hu => by
            rw [show (⟨g0, 0, none⟩ : Addr).add j = ⟨g0, j, none⟩ from (by unfold Addr.add; split <;> simp_all)]
            refine HX.out W hq j u ?_
            rw [List.getElem?_take] at hu
            split at hu
            · exact hu
            · cases hu)
          obtain ⟨aq, haq⟩ : ∃ aq, (if cp = k then some ⟨g0, 0, none⟩ else some ⟨g0, k, none⟩ : Option Addr) = some aq := by split <;> exact ⟨_, rfl⟩
          have HAQ := Lib.hid haq
          have HN2 : Hid (∀ W, Below wi.heap.size wi W → ∀ j u, (xs.drop k)[j]? = some u → W.cell? (aq.add j) = some u) := Lib.hid (fun W hq j u hu => by
            have hjl := (List.getElem?_eq_some_iff.1 hu).1
            rw [List.length_drop, HXL.out] at hjl
            have haq2 := HAQ.out
            rw [if_neg (by omega)] at haq2
            injection haq2 with haq2
            subst haq2
            rw [show (⟨g0, k, none⟩ : Addr).add j = ⟨g0, k + j, none⟩ from (by unfold Addr.add; split <;> simp_all)]
            rw [List.getElem?_drop] at hu
            exact HX.out W hq (k + j) u hu)
          clear haq
          have hki : k + 1 + (i - k) = i + 1 := by omega
          clear HV HCE HINS HX HXO HXL HAT hAf HPB HVB HBI HBW HVE hM HOW CF
          go_wp2_with fail
          refine region_inv (by kernel_rfl) (by kernel_rfl) (fun Fl9 ac W => ∃ (x42 x43 x44 x45 x46 x47 x48 x49 x50 x51 x52 x53 x54 x55 x56 x57 x4 : Value), ac = { tmps := #[Value.slice (some a) n c, undef, Value.slice none 0 0, Value.bool false, x4, Value.int IntKind.i64 (i : Int), Value.int IntKind.i64 (k : Int), Value.slice (some ⟨w.heap.size, 0, none⟩) 0 0, Value.slice (some a) n c, Value.bool true, Value.bool false, undef, Value.int IntKind.i64 (i : Int), Value.slice (some a) n c, Value.int IntKind.i64 (n : Int), Value.bool true, u16, u17, Value.slice (some ⟨g0, 0, none⟩) i cp, Value.int IntKind.i64 (i : Int), Value.int IntKind.i64 (k : Int), Value.bool false, Value.bool false, undef, undef, undef, undef, undef, undef, undef, undef, undef, undef, undef, undef, undef, undef, undef, undef, Value.bool false, u40, u41, x42, x43, x44, x45, x46, x47, x48, x49, x50, x51, x52, x53, x54, x55, x56, x57, undef], defers := [] } ∧ Below wi.heap.size wi W ∧
                (Fl9 0 = true → Fl9 4 = false → ∃ g, x42 = .slice (some ⟨g, 0, none⟩) 0 0 ∧ W.ownsRow wi.heap.size 3 1 (.slice (some ⟨g, 0, none⟩) 0 0) 0 []) ∧
                (Fl9 1 = true → x43 = .slice (some ⟨g0, 0, none⟩) i cp) ∧
                (Fl9 2 = true → x44 = .int .i64 (k : Int)) ∧
                (Fl9 3 = true → x45 = .slice (some ⟨g0, 0, none⟩) k cp) ∧
                (Fl9 4 = true → Fl9 11 = false → ∃ g c9, x46 = .slice (some ⟨g, 0, none⟩) k c9 ∧ W.ownsRow wi.heap.size 3 1 (.slice (some ⟨g, 0, none⟩) k c9) k (xs.take k)) ∧
                (Fl9 5 = true → x47 = .slice (some a) n c) ∧
                (Fl9 6 = true → x48 = .int .i64 (i : Int)) ∧
                (Fl9 7 = true → x49 = .pointer (some (a.add (i * 6)))) ∧
                (Fl9 8 = true → x50 = .pointer (some (a.add (i * 6)))) ∧
                (Fl9 9 = true → x51 = .int .i64 vi) ∧
                (Fl9 10 = true → Fl9 11 = false → ∃ g, x52 = .slice (some ⟨g, 0, none⟩) 1 1 ∧ ∀ j u, [Value.int .i64 vi][j]? = some u → W.cell? ((⟨g, 0, none⟩ : Addr).add j) = some u) ∧
                (Fl9 11 = true → Fl9 15 = false → ∃ g c9, x53 = .slice (some ⟨g, 0, none⟩) (k + 1) c9 ∧ W.ownsRow wi.heap.size 3 1 (.slice (some ⟨g, 0, none⟩) (k + 1) c9) (k + 1) (xs.take k ++ [.int .i64 vi])) ∧
                (Fl9 12 = true → x54 = .slice (some ⟨g0, 0, none⟩) i cp) ∧
                (Fl9 13 = true → x55 = .int .i64 (k : Int)) ∧
                (Fl9 14 = true → x56 = .slice (some aq) (i - k) (cp - k)) ∧
                (Fl9 15 = true → ∃ g c9, x57 = .slice (some ⟨g, 0, none⟩) (i + 1) c9 ∧ wi.heap.size ≤ g ∧ W.ownsRow wi.heap.size 3 1 (.slice (some ⟨g, 0, none⟩) (i + 1) c9) (i + 1) (xs.take k ++ [.int .i64 vi] ++ xs.drop k)) ∧
                (Fl9 16 = true → ∃ g c9, x4 = .slice (some ⟨g, 0, none⟩) (i + 1) c9 ∧ wi.heap.size ≤ g ∧ W.ownsRow wi.heap.size 3 1 (.slice (some ⟨g, 0, none⟩) (i + 1) c9) (i + 1) (xs.take k ++ [.int .i64 vi] ++ xs.drop k)) ∧
                (Fl9 16 = true → Fl9 1 = true ∧ Fl9 12 = true) ∧
                (Fl9 16 = false → x4 = .slice (some ⟨g0, 0, none⟩) i cp) ∧
                (Fl9 11 = true → Fl9 4 = true) ∧
                (Fl9 15 = true → Fl9 11 = true) ∧
                (Fl9 16 = true → Fl9 15 = true)) ?_ ?_ ?_
          · exact ⟨_, _, _, _, _, _, _, _, _, _, _, _, _, _, _, _, _, rfl, (Drawn.one wi 1).below _, (fun q0 => nomatch q0), (fun q0 => nomatch q0), (fun q0 => nomatch q0), (fun q0 => nomatch q0), (fun q0 => nomatch q0), (fun q0 => nomatch q0), (fun q0 => nomatch q0), (fun q0 => nomatch q0), (fun q0 => nomatch q0), (fun q0 => nomatch q0), (fun q0 => nomatch q0), (fun q0 => nomatch q0), (fun q0 => nomatch q0), (fun q0 => nomatch q0), (fun q0 => nomatch q0), (fun q0 => nomatch q0), (fun q0 => nomatch q0), (fun q0 => nomatch q0), (fun _ => rfl), (fun q0 => nomatch q0), (fun q0 => nomatch q0), (fun q0 => nomatch q0)⟩
          · intro Fl9 ac W i9 o9 hJ ho hL hdep K9 hK
            obtain ⟨x42, x43, x44, x45, x46, x47, x48, x49, x50, x51, x52, x53, x54, x55, x56, x57, x4, rfl, hB, hh0, hh1, hh2, hh3, hh4, hh5, hh6, hh7, hh8, hh9, hh10, hh11, hh12, hh13, hh14, hh15, hh16, hx0, hx1, hx2, hx3, hx4⟩ := hJ
            have hi9 : i9 < 17 := by simpa using (Array.getElem?_eq_some_iff.1 ho).1
            have V0 := HVI.out W hB
            obtain rfl | rfl | rfl | rfl | rfl | rfl | rfl | rfl | rfl | rfl | rfl | rfl | rfl | rfl | rfl | rfl | rfl : i9 = 0 ∨ i9 = 1 ∨ i9 = 2 ∨ i9 = 3 ∨ i9 = 4 ∨ i9 = 5 ∨ i9 = 6 ∨ i9 = 7 ∨ i9 = 8 ∨ i9 = 9 ∨ i9 = 10 ∨ i9 = 11 ∨ i9 = 12 ∨ i9 = 13 ∨ i9 = 14 ∨ i9 = 15 ∨ i9 = 16 := by omega
            · -- operation 0
              cases ho
              go_simp
              exact hK _ _ ⟨_, _, _, _, _, _, _, _, _, _, _, _, _, _, _, _, _, rfl, hB.trans ((Below.alloc (Below.refl W.heap.size W) (Nat.le_refl _) _).mono hB.size), fun _ _ => ⟨_, rfl, own_low (World.ownsRow_made W #[] 0 (Nat.le_refl _) (by unfold maxLen; omega) rfl) hB.size⟩, hh1, hh2, hh3, fun q0 r0 => (fun ⟨g, c9, e, o⟩ => ⟨g, c9, e, own_below o (Below.alloc (Below.refl W.heap.size W) (Nat.le_refl _) _)⟩) (hh4 q0 r0), hh5, hh6, hh7, hh8, hh9, fun q0 r0 => (fun ⟨g, e, h⟩ => ⟨g, e, fun j u hu => (Below.cell (Below.alloc (Below.refl W.heap.size W) (Nat.le_refl _) _) (World.block_lt_of_cell? W _ (h j u hu))).trans (h j u hu)⟩) (hh10 q0 r0), fun q0 r0 => (fun ⟨g, c9, e, o⟩ => ⟨g, c9, e, own_below o (Below.alloc (Below.refl W.heap.size W) (Nat.le_refl _) _)⟩) (hh11 q0 r0), hh12, hh13, hh14, fun q0 => (fun ⟨g, c9, e, h, o⟩ => ⟨g, c9, e, h, own_below o (Below.alloc (Below.refl W.heap.size W) (Nat.le_refl _) _)⟩) (hh15 q0), fun q0 => (fun ⟨g, c9, e, h, o⟩ => ⟨g, c9, e, h, own_below o (Below.alloc (Below.refl W.heap.size W) (Nat.le_refl _) _)⟩) (hh16 q0), hx0, hx1, hx2, hx3, hx4⟩
            · -- operation 1
              cases ho
              have hx9 : Fl9 16 = false := by
                cases hc9 : Fl9 16 with
                | false => rfl
                | true => exact absurd (hx0 hc9).1 (by rw [hL]; simp)
              obtain rfl := hx1 hx9
              go_simp
              exact hK _ _ ⟨_, _, _, _, _, _, _, _, _, _, _, _, _, _, _, _, _, rfl, hB, hh0, fun _ => rfl, hh2, hh3, hh4, hh5, hh6, hh7, hh8, hh9, hh10, hh11, hh12, hh13, hh14, hh15, hh16, fun q0 => ⟨rfl, (hx0 q0).2⟩, hx1, hx2, hx3, hx4⟩
            · -- operation 2
              cases ho
              go_simp
              exact hK _ _ ⟨_, _, _, _, _, _, _, _, _, _, _, _, _, _, _, _, _, rfl, hB, hh0, hh1, fun _ => rfl, hh3, hh4, hh5, hh6, hh7, hh8, hh9, hh10, hh11, hh12, hh13, hh14, hh15, hh16, hx0, hx1, hx2, hx3, hx4⟩
            · -- operation 3
              cases ho
              obtain rfl := hh1 (hdep ⟨1, .data⟩ (by simp) rfl)
              obtain rfl := hh2 (hdep ⟨2, .data⟩ (by simp) rfl)
              go_simp
              exact hK _ _ ⟨_, _, _, _, _, _, _, _, _, _, _, _, _, _, _, _, _, rfl, hB, hh0, hh1, hh2, fun _ => rfl, hh4, hh5, hh6, hh7, hh8, hh9, hh10, hh11, hh12, hh13, hh14, hh15, hh16, hx0, hx1, hx2, hx3, hx4⟩
            · -- operation 4
              cases ho
              have hd0 := hdep ⟨0, .data⟩ (by simp) rfl
              obtain ⟨g9, rfl, oe⟩ := hh0 hd0 hL
              obtain rfl := hh3 (hdep ⟨3, .data⟩ (by simp) rfl)
              refine step_append rfl (.tmp 42) (.tmp 45) 30 rfl wi.heap.size 3 i0 (.int .i64 0) 1 8 Try.underlying30 hi hz0 hz1 hz2 rfl (by decide) _ 0 _ rfl oe ⟨g0, 0, none⟩ k cp (xs.take k) rfl HT1.out (HN1.out W hB) HO1.out (by unfold maxLen; omega) (by omega) hB.size (fun e => nomatch e) ?_
              intro g1 cap w9 hown hgr
              rw [Nat.zero_add, List.nil_append] at hown
              rw [Nat.zero_add]
              have keep10 : (∃ g, x52 = .slice (some ⟨g, 0, none⟩) 1 1 ∧ ∀ j u, [Value.int .i64 vi][j]? = some u → W.cell? ((⟨g, 0, none⟩ : Addr).add j) = some u) → ∃ g, x52 = .slice (some ⟨g, 0, none⟩) 1 1 ∧ ∀ j u, [Value.int .i64 vi][j]? = some u → w9.cell? ((⟨g, 0, none⟩ : Addr).add j) = some u := fun ⟨gq, e, h⟩ => ⟨gq, e, keep_empty oe hgr h⟩
              exact hK _ _ ⟨_, _, _, _, _, _, _, _, _, _, _, _, _, _, _, _, _, rfl, hB.grown hgr hB.size (fun q e => (oe.lt q e).1), (fun _ q0 => nomatch q0), hh1, hh2, hh3, fun _ => fun _ => ⟨_, _, rfl, hown⟩, hh5, hh6, hh7, hh8, hh9, (fun q0 r0 => keep10 (hh10 q0 r0)), (fun q0 => absurd (hx2 q0) (by rw [hL]; simp)), hh12, hh13, hh14, (fun q0 => absurd (hx2 (hx3 q0)) (by rw [hL]; simp)), (fun q0 => absurd (hx2 (hx3 (hx4 q0))) (by rw [hL]; simp)), hx0, hx1, fun _ => rfl, hx3, hx4⟩
            · -- operation 5
              cases ho
              go_simp
              exact hK _ _ ⟨_, _, _, _, _, _, _, _, _, _, _, _, _, _, _, _, _, rfl, hB, hh0, hh1, hh2, hh3, hh4, fun _ => rfl, hh6, hh7, hh8, hh9, hh10, hh11, hh12, hh13, hh14, hh15, hh16, hx0, hx1, hx2, hx3, hx4⟩
            · -- operation 6
              cases ho
              go_simp
              exact hK _ _ ⟨_, _, _, _, _, _, _, _, _, _, _, _, _, _, _, _, _, rfl, hB, hh0, hh1, hh2, hh3, hh4, hh5, fun _ => rfl, hh7, hh8, hh9, hh10, hh11, hh12, hh13, hh14, hh15, hh16, hx0, hx1, hx2, hx3, hx4⟩
            · -- operation 7
              cases ho
              obtain rfl := hh5 (hdep ⟨5, .data⟩ (by simp) rfl)
              obtain rfl := hh6 (hdep ⟨6, .data⟩ (by simp) rfl)
              go_simp
              exact hK _ _ ⟨_, _, _, _, _, _, _, _, _, _, _, _, _, _, _, _, _, rfl, hB, hh0, hh1, hh2, hh3, hh4, hh5, hh6, fun _ => rfl, hh8, hh9, hh10, hh11, hh12, hh13, hh14, hh15, hh16, hx0, hx1, hx2, hx3, hx4⟩
            · -- operation 8
              cases ho
              obtain rfl := hh7 (hdep ⟨7, .data⟩ (by simp) rfl)
              go_simp
              exact hK _ _ ⟨_, _, _, _, _, _, _, _, _, _, _, _, _, _, _, _, _, rfl, hB, hh0, hh1, hh2, hh3, hh4, hh5, hh6, hh7, fun _ => rfl, hh9, hh10, hh11, hh12, hh13, hh14, hh15, hh16, hx0, hx1, hx2, hx3, hx4⟩
            · -- operation 9
              cases ho
              obtain rfl := hh8 (hdep ⟨8, .data⟩ (by simp) rfl)
              go_simp
              exact hK _ _ ⟨_, _, _, _, _, _, _, _, _, _, _, _, _, _, _, _, _, rfl, hB, hh0, hh1, hh2, hh3, hh4, hh5, hh6, hh7, hh8, fun _ => rfl, hh10, hh11, hh12, hh13, hh14, hh15, hh16, hx0, hx1, hx2, hx3, hx4⟩
            · -- operation 10
              cases ho
              obtain rfl := hh9 (hdep ⟨9, .data⟩ (by simp) rfl)
              go_simp
              exact hK _ _ ⟨_, _, _, _, _, _, _, _, _, _, _, _, _, _, _, _, _, rfl, hB.trans ((Below.alloc (Below.refl W.heap.size W) (Nat.le_refl _) _).mono hB.size), fun q0 r0 => (fun ⟨g, e, o⟩ => ⟨g, e, own_below o (Below.alloc (Below.refl W.heap.size W) (Nat.le_refl _) _)⟩) (hh0 q0 r0), hh1, hh2, hh3, fun q0 r0 => (fun ⟨g, c9, e, o⟩ => ⟨g, c9, e, own_below o (Below.alloc (Below.refl W.heap.size W) (Nat.le_refl _) _)⟩) (hh4 q0 r0), hh5, hh6, hh7, hh8, hh9, fun _ _ => ⟨_, rfl, cell_one_new W _ _⟩, fun q0 r0 => (fun ⟨g, c9, e, o⟩ => ⟨g, c9, e, own_below o (Below.alloc (Below.refl W.heap.size W) (Nat.le_refl _) _)⟩) (hh11 q0 r0), hh12, hh13, hh14, fun q0 => (fun ⟨g, c9, e, h, o⟩ => ⟨g, c9, e, h, own_below o (Below.alloc (Below.refl W.heap.size W) (Nat.le_refl _) _)⟩) (hh15 q0), fun q0 => (fun ⟨g, c9, e, h, o⟩ => ⟨g, c9, e, h, own_below o (Below.alloc (Below.refl W.heap.size W) (Nat.le_refl _) _)⟩) (hh16 q0), hx0, hx1, hx2, hx3, hx4⟩
            · -- operation 11
              cases ho
              have hd4 := hdep ⟨4, .data⟩ (by simp) rfl
              obtain ⟨g9, c9, rfl, oe⟩ := hh4 hd4 hL
              have hd10 := hdep ⟨10, .data⟩ (by simp) rfl
              obtain ⟨gn, rfl, hnew⟩ := hh10 hd10 hL
              refine step_append rfl (.tmp 46) (.tmp 52) 30 rfl wi.heap.size 3 i0 (.int .i64 0) 1 8 Try.underlying30 hi hz0 hz1 hz2 rfl (by decide) _ k _ rfl oe ⟨gn, 0, none⟩ 1 1 [.int .i64 vi] rfl rfl hnew (by simp [Value.oneCell']) (by unfold maxLen; omega) (by omega) hB.size (fun e => nomatch e) ?_
              intro g1 cap w9 hown hgr
              exact hK _ _ ⟨_, _, _, _, _, _, _, _, _, _, _, _, _, _, _, _, _, rfl, hB.grown hgr hB.size (fun q e => (oe.lt q e).1), (fun _ q0 => absurd ((show Fl9 4 = false from q0).symm.trans hd4) (by simp)), hh1, hh2, hh3, (fun _ q0 => nomatch q0), hh5, hh6, hh7, hh8, hh9, (fun _ q0 => nomatch q0), fun _ => fun _ => ⟨_, _, rfl, hown⟩, hh12, hh13, hh14, (fun q0 => absurd (hx3 q0) (by rw [hL]; simp)), (fun q0 => absurd (hx3 (hx4 q0)) (by rw [hL]; simp)), hx0, hx1, fun _ => hd4, fun _ => rfl, hx4⟩
            · -- operation 12
              cases ho
              have hx9 : Fl9 16 = false := by
                cases hc9 : Fl9 16 with
                | false => rfl
                | true => exact absurd (hx0 hc9).2 (by rw [hL]; simp)
              obtain rfl := hx1 hx9
              go_simp
              exact hK _ _ ⟨_, _, _, _, _, _, _, _, _, _, _, _, _, _, _, _, _, rfl, hB, hh0, hh1, hh2, hh3, hh4, hh5, hh6, hh7, hh8, hh9, hh10, hh11, fun _ => rfl, hh13, hh14, hh15, hh16, fun q0 => ⟨(hx0 q0).1, rfl⟩, hx1, hx2, hx3, hx4⟩
            · -- operation 13
              cases ho
              go_simp
              exact hK _ _ ⟨_, _, _, _, _, _, _, _, _, _, _, _, _, _, _, _, _, rfl, hB, hh0, hh1, hh2, hh3, hh4, hh5, hh6, hh7, hh8, hh9, hh10, hh11, hh12, fun _ => rfl, hh14, hh15, hh16, hx0, hx1, hx2, hx3, hx4⟩
            · -- operation 14
              cases ho
              obtain rfl := hh12 (hdep ⟨12, .data⟩ (by simp) rfl)
              obtain rfl := hh13 (hdep ⟨13, .data⟩ (by simp) rfl)
              go_simp
              exact hK _ _ ⟨_, _, _, _, _, _, _, _, _, _, _, _, _, _, _, _, _, rfl, hB, hh0, hh1, hh2, hh3, hh4, hh5, hh6, hh7, hh8, hh9, hh10, hh11, hh12, hh13, fun _ => (by rw [HAQ.out]), hh15, hh16, hx0, hx1, hx2, hx3, hx4⟩
            · -- operation 15
              cases ho
              have hd11 := hdep ⟨11, .data⟩ (by simp) rfl
              obtain ⟨g9, c9, rfl, oe⟩ := hh11 hd11 hL
              obtain rfl := hh14 (hdep ⟨14, .data⟩ (by simp) rfl)
              refine step_append rfl (.tmp 53) (.tmp 56) 30 rfl wi.heap.size 3 i0 (.int .i64 0) 1 8 Try.underlying30 hi hz0 hz1 hz2 rfl (by decide) _ (k + 1) _ rfl oe aq (i - k) (cp - k) (xs.drop k) rfl HT2.out (HN2.out W hB) HO2.out (by unfold maxLen; omega) (by omega) hB.size (fun e => nomatch e) ?_
              intro g1 cap w9 hown hgr
              rw [hki] at hown ⊢
              exact hK _ _ ⟨_, _, _, _, _, _, _, _, _, _, _, _, _, _, _, _, _, rfl, hB.grown hgr hB.size (fun q e => (oe.lt q e).1), (fun _ q0 => absurd ((show Fl9 4 = false from q0).symm.trans (hx2 hd11)) (by simp)), hh1, hh2, hh3, (fun _ q0 => absurd ((show Fl9 11 = false from q0).symm.trans hd11) (by simp)), hh5, hh6, hh7, hh8, hh9, (fun _ q0 => absurd ((show Fl9 11 = false from q0).symm.trans hd11) (by simp)), (fun _ q0 => nomatch q0), hh12, hh13, hh14, fun _ => ⟨_, _, rfl, (hown.lt g1 rfl).1, hown⟩, (fun q0 => absurd (hx4 q0) (by rw [hL]; simp)), hx0, hx1, hx2, fun _ => hd11, fun _ => rfl⟩
            · -- operation 16
              cases ho
              have hd15 := hdep ⟨15, .data⟩ (by simp) rfl
              obtain ⟨g9, c9, rfl, hg9, ho9⟩ := hh15 hd15
              go_simp
              exact hK _ _ ⟨_, _, _, _, _, _, _, _, _, _, _, _, _, _, _, _, _, rfl, hB, hh0, hh1, hh2, hh3, hh4, hh5, hh6, hh7, hh8, hh9, hh10, hh11, hh12, hh13, hh14, hh15, fun _ => ⟨_, _, rfl, hg9, ho9⟩, fun _ => ⟨hdep ⟨1, .phase⟩ (by simp) rfl, hdep ⟨12, .phase⟩ (by simp) rfl⟩, (fun q0 => nomatch q0), hx2, hx3, fun _ => hd15⟩
          intro Fl9 ac W hJ hall
          obtain ⟨x42, x43, x44, x45, x46, x47, x48, x49, x50, x51, x52, x53, x54, x55, x56, x57, x4, rfl, hB, hh0, hh1, hh2, hh3, hh4, hh5, hh6, hh7, hh8, hh9, hh10, hh11, hh12, hh13, hh14, hh15, hh16, -, -, -, -, -⟩ := hJ
          obtain rfl := hh1 (hall 1 (by decide))
          obtain rfl := hh2 (hall 2 (by decide))
          obtain rfl := hh3 (hall 3 (by decide))
          obtain rfl := hh5 (hall 5 (by decide))
          obtain rfl := hh6 (hall 6 (by decide))
          obtain rfl := hh7 (hall 7 (by decide))
          obtain rfl := hh8 (hall 8 (by decide))
          obtain rfl := hh9 (hall 9 (by decide))
          obtain rfl := hh12 (hall 12 (by decide))
          obtain rfl := hh13 (hall 13 (by decide))
          obtain rfl := hh14 (hall 14 (by decide))
          clear hh0
          clear hh4
          clear hh10
          clear hh11
          clear hh15
          obtain ⟨gf, cf, rfl, hgf, hof⟩ := hh16 (hall 16 (by decide))
          clear hall
          have HBE := Lib.hid (HBJ.out.trans (hB.mono HBJ.out.size))
          have HOF := Lib.hid hof
          clear hof hB HN1 HN2 HO1 HO2 HT1 HT2 HVI
          go_wp2_with fail
          go_roundw
          case rel => exact ⟨i + 1, gf, cf, M.take k ++ (⟨vi, vsn, vl, vb, vd, vq⟩ : Ves) :: M.drop k, by omega, by go_num, HORD, rfl, Nat.le_trans (Nat.le_trans HB.out.size HBJ.out.size) hgf, by rw [HXS.out]; exact own_low HOF.out (Nat.le_trans HB.out.size HBJ.out.size), HB.out.trans (HBE.out.mono HB.out.size)⟩
          case measure => simp [intOf]; omega
        · obtain ⟨k', rfl⟩ : ∃ k', k = k' + 1 := ⟨k - 1, by omega⟩
          obtain ⟨p, hpi, hpU, hpf, hid⟩ := HAT.out k' (by omega)
          have hpl : p < vs.length := by omega
          rw [HI.out.len] at hpf
          have HU := Lib.hid (fun W (hq : Below w.heap.size w W) => (HI.out.all.has.below hq).ves hpl)
          have HUB := Lib.hid (HPB.out p hpl)
          obtain ⟨aU, eU, -, hU⟩ := HU.out _ HBW.out
          obtain ⟨aV, eV, -, hVV⟩ := HV.out _ HBW.out
          injection eU with eU
          subst eU
          injection eV with eV
          subst eV
          obtain ⟨a0, ea0, -, hc0⟩ := (HCE.out _ HBI.out).intAt (k := k') (by rw [List.length_map]; omega)
          injection ea0 with ea0
          subst ea0
          rw [show (M.map (·.id))[k']'(by rw [List.length_map]; omega) = (M.getD k' noVes).id from (by rw [List.getElem_map, getV (by omega)])] at hc0
          rw [show (⟨g0, 0, none⟩ : Addr).add k' = ⟨g0, k', none⟩ from (by unfold Addr.add; split <;> simp_all)] at hc0
          rw [hpU] at hU HUB
          obtain ⟨U, hUe⟩ : ∃ U, M.getD k' noVes = U := ⟨_, rfl⟩
          rw [hUe] at hU HUB hc0 hpf hid hpU
          have HAfU := Lib.hid hUe
          clear hUe hpU
          obtain ⟨ui, us, ul, ub, ud, uq⟩ := U
          dsimp only at hc0 hpf hid HUB
          obtain ⟨u0, u1, u2, u3, u4, u5⟩ := hU
          obtain ⟨v0, v1, v2, v3, v4, v5⟩ := hVV
          dsimp only at u0 u1 u2 u3 u4 u5 v0 v1 v2 v3 v4 v5
          have cP := fun (dr : Nat) (os : Array Obj) => Calls.regrown_of (w := wr) (d := dr) (os := os) (CF.out _ (HBW.out.trans ((below_regrown wr dr os).mono HBW.out.size)) ui p hpf)
          have cA0 := fun W => l3Ahead_any ui us ul ub ud uq vi vsn vl vb vd vq W HUB.out.1 HUB.out.2 HVB.out.1 HVB.out.2
          obtain ⟨r, hr⟩ : ∃ r, ahdB (ul * ub) ud (vl * vb) vd = r := ⟨_, rfl⟩
          rw [hr] at cA0
          have cA := fun (dr : Nat) (os : Array Obj) => Calls.regrown_of (w := wr) (d := dr) (os := os) (cA0 _)
          have HR := Lib.hid hr
          clear hr cA0
          have O0 := fun (d : Nat) (os : Array Obj) => cell_regrown hc0 d os
          have U0 := fun (d : Nat) (os : Array Obj) => cell_regrown u0 d os
          have U1 := fun (d : Nat) (os : Array Obj) => cell_regrown u1 d os
          have U2 := fun (d : Nat) (os : Array Obj) => cell_regrown u2 d os
          have U3 := fun (d : Nat) (os : Array Obj) => cell_regrown u3 d os
          have U4 := fun (d : Nat) (os : Array Obj) => cell_regrown u4 d os
          have U5 := fun (d : Nat) (os : Array Obj) => cell_regrown u5 d os
          have V0 := fun (d : Nat) (os : Array Obj) => cell_regrown v0 d os
          have V1 := fun (d : Nat) (os : Array Obj) => cell_regrown v1 d os
          have V2 := fun (d : Nat) (os : Array Obj) => cell_regrown v2 d os
          have V3 := fun (d : Nat) (os : Array Obj) => cell_regrown v3 d os
          have V4 := fun (d : Nat) (os : Array Obj) => cell_regrown v4 d os
          have V5 := fun (d : Nat) (os : Array Obj) => cell_regrown v5 d os
          have hkp : 0 < k' + 1 := by omega
          have hk0' : (0 : Int) ≤ (k' : Int) := by omega
          have hk1' : (k' : Int) < (i : Int) := by omega
          have hp0 : (0 : Int) ≤ (p : Int) := by omega
          have hp1 : (p : Int) < (n : Int) := by have := HI.out.len; omega
          have hicp : (k' : Int) < (i : Int) := by omega
          clear h0 u0 u1 u2 u3 u4 u5 v0 v1 v2 v3 v4 v5 hc0 hpf
          cases r with
          | false =>
            have HAF2 : Hid (∀ j, k' ≤ j → j < i → ¬ Ahead (M.getD j noVes) ⟨vi, vsn, vl, vb, vd, vq⟩) := Lib.hid (fun j h1 h2 => by
              rcases Nat.eq_or_lt_of_le h1 with rfl | h3
              · rw [HAfU.out]; exact ahd_no HR.out
              · exact hAf.out j h3 h2)
            clear hAf HR HAfU
            go_wp2_with fail
            refine wp_region_quiet_below (by kernel_rfl) (by kernel_rfl) ?_
            repeat (go_big_quiet_step (first | exact cP _ _ | exact cA _ _))
            refine wpQuiet_nil ?_
            intro wi hw'
            have HBJ : Hid (Below wo.heap.size wo wi) := Lib.hid (by obtain ⟨p, e⟩ := hw'; rw [e]; exact HBI.out.trans ((below_regrown wr p.d p.os).mono HBI.out.size))
            clear hw' cP cA O0 U0 U1 U2 U3 U4 U5 V0 V1 V2 V3 V4 V5
            go_wp2_with fail
            go_roundw
            case rel => exact ⟨k', by omega, by go_num, HAF2, HBJ.out⟩
            case measure => simp [intOf]
          | true =>
            have HUA : Hid (Ahead (M.getD k' noVes) ⟨vi, vsn, vl, vb, vd, vq⟩) := Lib.hid (by rw [HAfU.out]; exact ahd_yes HR.out hid)
            go_wp2_with fail
            refine wp_region_quiet_below (by kernel_rfl) (by kernel_rfl) ?_
            repeat (go_big_quiet_step (first | exact cP _ _ | exact cA _ _))
            refine wpQuiet_nil ?_
            intro wi hw'
            have HBJ : Hid (Below wo.heap.size wo wi) := Lib.hid (by obtain ⟨p, e⟩ := hw'; rw [e]; exact HBI.out.trans ((below_regrown wr p.d p.os).mono HBI.out.size))
            clear hw' cP cA O0 U0 U1 U2 U3 U4 U5 V0 V1 V2 V3 V4 V5 HR
            have HORD := Lib.hid (HINS.out (k' + 1) hk (fun j h1 h2 => hAf.out j h1 (by omega)) (.inr HUA.out))
            obtain ⟨k, hkk⟩ : ∃ k, k = k' + 1 := ⟨_, rfl⟩
            have hkc : (k' : Int) + 1 = (k : Int) := by rw [hkk]; simp
            rw [← hkk] at HORD hk hAf
            rw [← hkk]
            have hkn2 : (k : Int) ≤ (i : Int) := by omega
            have hkn3 : (0 : Int) ≤ (k : Int) := by omega
            clear hkn0 hkn1 hkp hkc hkk
            have hcp : i ≤ cp := by
              rcases HOW.out.2 with ⟨e, -⟩ | ⟨g', cap', cur, e, -, -, h1, -⟩
              · cases e
              · injection e with e1 e2 e3; omega
            have hkcp : k ≤ cp := by omega
            have HVI : Hid (∀ W, Below wi.heap.size wi W → W.cell? (a.add (i * 6)) = some (.int .i64 vi)) := Lib.hid (fun W hq => by
              obtain ⟨aV, eV, -, hVV⟩ := HV.out W (HB.out.trans ((HBJ.out.trans (hq.mono HBJ.out.size)).mono HB.out.size))
              injection eV with eV
              subst eV
              exact hVV.c0)
            have HX : Hid (∀ W, Below wi.heap.size wi W → ∀ j u, ((M.map (·.id)).map (Value.int .i64))[j]? = some u → W.cell? ⟨g0, j, none⟩ = some u) := Lib.hid (fun W hq j u hu => by
              obtain ⟨a0, ea0, -, hc0⟩ := HCE.out W (HBJ.out.trans (hq.mono HBJ.out.size)) j u hu
              injection ea0 with ea0
              subst ea0
              rwa [show (⟨g0, 0, none⟩ : Addr).add j = ⟨g0, j, none⟩ from (by unfold Addr.add; split <;> simp_all)] at hc0)
            have HXL : Hid (((M.map (·.id)).map (Value.int .i64)).length = i) := Lib.hid (by rw [List.length_map, List.length_map, hML])
            have HXS : Hid (((M.take k ++ (⟨vi, vsn, vl, vb, vd, vq⟩ : Ves) :: M.drop k).map (·.id)).map (Value.int .i64) = ((M.map (·.id)).map (Value.int .i64)).take k ++ [.int .i64 vi] ++ ((M.map (·.id)).map (Value.int .i64)).drop k) := Lib.hid (by simp [List.map_take, List.map_drop])
            have HXO : Hid (∀ u ∈ ((M.map (·.id)).map (Value.int .i64)), u.oneCell' = true) := Lib.hid (fun u hu => by obtain ⟨q, -, rfl⟩ := List.mem_map.1 hu; rfl)
            generalize (M.map (·.id)).map (Value.int .i64) = xs at HX HXL HXS HXO
            have HT1 : Hid ((xs.take k).length = k * 1) := Lib.hid (by rw [List.length_take, HXL.out]; omega)
            have HT2 : Hid ((xs.drop k).length = (i - k) * 1) := Lib.hid (by rw [List.length_drop, HXL.out]; omega)
            have HO1 : Hid (∀ u ∈ xs.take k, u.oneCell' = true) := Lib.hid (fun u hu => HXO.out u (List.mem_of_mem_take hu))
            have HO2 : Hid (∀ u ∈ xs.drop k, u.oneCell' = true) := Lib.hid (fun u hu => HXO.out u (List.mem_of_mem_drop hu))
            have HN1 : Hid (∀ W, Below wi.heap.size wi W → ∀ j u, (xs.take k)[j]? = some u → W.cell? ((⟨g0, 0, none⟩ : Addr).add j) = some u) := Lib.hid (fun W hq j u hu => by
              rw [show (⟨g0, 0, none⟩ : Addr).add j = ⟨g0, j, none⟩ from (by unfold Addr.add; split <;> simp_all)]
              refine HX.out W hq j u ?_
              rw [List.getElem?_take] at hu
              split at hu
              · exact hu
              · cases hu)
            obtain ⟨aq, haq⟩ : ∃ aq, (if cp = k then some ⟨g0, 0, none⟩ else some ⟨g0, k, none⟩ : Option Addr) = some aq := by split <;> exact ⟨_, rfl⟩
            have HAQ := Lib.hid haq
            have HN2 : Hid (∀ W, Below wi.heap.size wi W → ∀ j u, (xs.drop k)[j]? = some u → W.cell? (aq.add j) = some u) := Lib.hid (fun W hq j u hu => by
              have hjl := (List.getElem?_eq_some_iff.1 hu).1
              rw [List.length_drop, HXL.out] at hjl
              have haq2 := HAQ.out
              rw [if_neg (by omega)] at haq2
              injection haq2 with haq2
              subst haq2
              rw [show (⟨g0, k, none⟩ : Addr).add j = ⟨g0, k + j, none⟩ from (by unfold Addr.add; split <;> simp_all)]
              rw [List.getElem?_drop] at hu
              exact HX.out W hq (k + j) u hu)
            clear haq
            have hki : k + 1 + (i - k) = i + 1 := by omega
            clear HV HCE HINS HX HXO HXL HAT hAf HPB HVB HBI HBW HVE hM HOW CF
            go_wp2_with fail
            refine region_inv (by kernel_rfl) (by kernel_rfl) (fun Fl9 ac W => ∃ (x42 x43 x44 x45 x46 x47 x48 x49 x50 x51 x52 x53 x54 x55 x56 x57 x4 : Value), ac = { tmps := #[Value.slice (some a) n c, undef, Value.slice none 0 0, Value.bool false, x4, Value.int IntKind.i64 (i : Int), Value.int IntKind.i64 (k : Int), Value.slice (some ⟨w.heap.size, 0, none⟩) 0 0, Value.slice (some a) n c, Value.bool true, Value.bool false, undef, Value.int IntKind.i64 (i : Int), Value.slice (some a) n c, Value.int IntKind.i64 (n : Int), Value.bool true, u16, u17, Value.slice (some ⟨g0, 0, none⟩) i cp, Value.int IntKind.i64 (i : Int), Value.int IntKind.i64 (k : Int), Value.bool true, Value.bool true, Value.slice (some a) n c, Value.slice (some a) n c, Value.slice (some ⟨g0, 0, none⟩) i cp, Value.int IntKind.i64 (k : Int), Value.int IntKind.i64 (k' : Int), Value.pointer (some ⟨g0, k', none⟩), Value.int IntKind.i64 ui, Value.int IntKind.i64 (p : Int), Value.pointer (some (a.add (p * 6))), Value.agg #[Value.int IntKind.i64 ui, Value.string us, Value.int IntKind.i64 ul, Value.int IntKind.i64 ub, Value.int IntKind.i64 ud, Value.int IntKind.i64 uq], Value.slice (some a) n c, Value.int IntKind.i64 (i : Int), Value.pointer (some (a.add (i * 6))), Value.agg #[Value.int IntKind.i64 vi, Value.string vsn, Value.int IntKind.i64 vl, Value.int IntKind.i64 vb, Value.int IntKind.i64 vd, Value.int IntKind.i64 vq], Value.bool true, Value.bool false, Value.bool false, u40, u41, x42, x43, x44, x45, x46, x47, x48, x49, x50, x51, x52, x53, x54, x55, x56, x57, undef], defers := [] } ∧ Below wi.heap.size wi W ∧
                  (Fl9 0 = true → Fl9 4 = false → ∃ g, x42 = .slice (some ⟨g, 0, none⟩) 0 0 ∧ W.ownsRow wi.heap.size 3 1 (.slice (some ⟨g, 0, none⟩) 0 0) 0 []) ∧
                  (Fl9 1 = true → x43 = .slice (some ⟨g0, 0, none⟩) i cp) ∧
                  (Fl9 2 = true → x44 = .int .i64 (k : Int)) ∧
                  (Fl9 3 = true → x45 = .slice (some ⟨g0, 0, none⟩) k cp) ∧
                  (Fl9 4 = true → Fl9 11 = false → ∃ g c9, x46 = .slice (some ⟨g, 0, none⟩) k c9 ∧ W.ownsRow wi.heap.size 3 1 (.slice (some ⟨g, 0, none⟩) k c9) k (xs.take k)) ∧
                  (Fl9 5 = true → x47 = .slice (some a) n c) ∧
                  (Fl9 6 = true → x48 = .int .i64 (i : Int)) ∧
                  (Fl9 7 = true → x49 = .pointer (some (a.add (i * 6)))) ∧
                  (Fl9 8 = true → x50 = .pointer (some (a.add (i * 6)))) ∧
                  (Fl9 9 = true → x51 = .int .i64 vi) ∧
                  (Fl9 10 = true → Fl9 11 = false → ∃ g, x52 = .slice (some ⟨g, 0, none⟩) 1 1 ∧ ∀ j u, [Value.int .i64 vi][j]? = some u → W.cell? ((⟨g, 0, none⟩ : Addr).add j) = some u) ∧
                  (Fl9 11 = true → Fl9 15 = false → ∃ g c9, x53 = .slice (some ⟨g, 0, none⟩) (k + 1) c9 ∧ W.ownsRow wi.heap.size 3 1 (.slice (some ⟨g, 0, none⟩) (k + 1) c9) (k + 1) (xs.take k ++ [.int .i64 vi])) ∧
                  (Fl9 12 = true → x54 = .slice (some ⟨g0, 0, none⟩) i cp) ∧
                  (Fl9 13 = true → x55 = .int .i64 (k : Int)) ∧
                  (Fl9 14 = true → x56 = .slice (some aq) (i - k) (cp - k)) ∧
                  (Fl9 15 = true → ∃ g c9, x57 = .slice (some ⟨g, 0, none⟩) (i + 1) c9 ∧ wi.heap.size ≤ g ∧ W.ownsRow wi.heap.size 3 1 (.slice (some ⟨g, 0, none⟩) (i + 1) c9) (i + 1) (xs.take k ++ [.int .i64 vi] ++ xs.drop k)) ∧
                  (Fl9 16 = true → ∃ g c9, x4 = .slice (some ⟨g, 0, none⟩) (i + 1) c9 ∧ wi.heap.size ≤ g ∧ W.ownsRow wi.heap.size 3 1 (.slice (some ⟨g, 0, none⟩) (i + 1) c9) (i + 1) (xs.take k ++ [.int .i64 vi] ++ xs.drop k)) ∧
                  (Fl9 16 = true → Fl9 1 = true ∧ Fl9 12 = true) ∧
                  (Fl9 16 = false → x4 = .slice (some ⟨g0, 0, none⟩) i cp) ∧
                  (Fl9 11 = true → Fl9 4 = true) ∧
                  (Fl9 15 = true → Fl9 11 = true) ∧
                  (Fl9 16 = true → Fl9 15 = true)) ?_ ?_ ?_
            · exact ⟨_, _, _, _, _, _, _, _, _, _, _, _, _, _, _, _, _, rfl, (Drawn.one wi 1).below _, (fun q0 => nomatch q0), (fun q0 => nomatch q0), (fun q0 => nomatch q0), (fun q0 => nomatch q0), (fun q0 => nomatch q0), (fun q0 => nomatch q0), (fun q0 => nomatch q0), (fun q0 => nomatch q0), (fun q0 => nomatch q0), (fun q0 => nomatch q0), (fun q0 => nomatch q0), (fun q0 => nomatch q0), (fun q0 => nomatch q0), (fun q0 => nomatch q0), (fun q0 => nomatch q0), (fun q0 => nomatch q0), (fun q0 => nomatch q0), (fun q0 => nomatch q0), (fun _ => rfl), (fun q0 => nomatch q0), (fun q0 => nomatch q0), (fun q0 => nomatch q0)⟩
            · intro Fl9 ac W i9 o9 hJ ho hL hdep K9 hK
              obtain ⟨x42, x43, x44, x45, x46, x47, x48, x49, x50, x51, x52, x53, x54, x55, x56, x57, x4, rfl, hB, hh0, hh1, hh2, hh3, hh4, hh5, hh6, hh7, hh8, hh9, hh10, hh11, hh12, hh13, hh14, hh15, hh16, hx0, hx1, hx2, hx3, hx4⟩ := hJ
              have hi9 : i9 < 17 := by simpa using (Array.getElem?_eq_some_iff.1 ho).1
              have V0 := HVI.out W hB
              obtain rfl | rfl | rfl | rfl | rfl | rfl | rfl | rfl | rfl | rfl | rfl | rfl | rfl | rfl | rfl | rfl | rfl : i9 = 0 ∨ i9 = 1 ∨ i9 = 2 ∨ i9 = 3 ∨ i9 = 4 ∨ i9 = 5 ∨ i9 = 6 ∨ i9 = 7 ∨ i9 = 8 ∨ i9 = 9 ∨ i9 = 10 ∨ i9 = 11 ∨ i9 = 12 ∨ i9 = 13 ∨ i9 = 14 ∨ i9 = 15 ∨ i9 = 16 := by omega
              · -- operation 0
                cases ho
                go_simp
                exact hK _ _ ⟨_, _, _, _, _, _, _, _, _, _, _, _, _, _, _, _, _, rfl, hB.trans ((Below.alloc (Below.refl W.heap.size W) (Nat.le_refl _) _).mono hB.size), fun _ _ => ⟨_, rfl, own_low (World.ownsRow_made W #[] 0 (Nat.le_refl _) (by unfold maxLen; omega) rfl) hB.size⟩, hh1, hh2, hh3, fun q0 r0 => (fun ⟨g, c9, e, o⟩ => ⟨g, c9, e, own_below o (Below.alloc (Below.refl W.heap.size W) (Nat.le_refl _) _)⟩) (hh4 q0 r0), hh5, hh6, hh7, hh8, hh9, fun q0 r0 => (fun ⟨g, e, h⟩ => ⟨g, e, fun j u hu => (Below.cell (Below.alloc (Below.refl W.heap.size W) (Nat.le_refl _) _) (World.block_lt_of_cell? W _ (h j u hu))).trans (h j u hu)⟩) (hh10 q0 r0), fun q0 r0 => (fun ⟨g, c9, e, o⟩ => ⟨g, c9, e, own_below o (Below.alloc (Below.refl W.heap.size W) (Nat.le_refl _) _)⟩) (hh11 q0 r0), hh12, hh13, hh14, fun q0 => (fun ⟨g, c9, e, h, o⟩ => ⟨g, c9, e, h, own_below o (Below.alloc (Below.refl W.heap.size W) (Nat.le_refl _) _)⟩) (hh15 q0), fun q0 => (fun ⟨g, c9, e, h, o⟩ => ⟨g, c9, e, h, own_below o (Below.alloc (Below.refl W.heap.size W) (Nat.le_refl _) _)⟩) (hh16 q0), hx0, hx1, hx2, hx3, hx4⟩
              · -- operation 1
                cases ho
                have hx9 : Fl9 16 = false := by
                  cases hc9 : Fl9 16 with
                  | false => rfl
                  | true => exact absurd (hx0 hc9).1 (by rw [hL]; simp)
                obtain rfl := hx1 hx9
                go_simp
                exact hK _ _ ⟨_, _, _, _, _, _, _, _, _, _, _, _, _, _, _, _, _, rfl, hB, hh0, fun _ => rfl, hh2, hh3, hh4, hh5, hh6, hh7, hh8, hh9, hh10, hh11, hh12, hh13, hh14, hh15, hh16, fun q0 => ⟨rfl, (hx0 q0).2⟩, hx1, hx2, hx3, hx4⟩
              · -- operation 2
                cases ho
                go_simp
                exact hK _ _ ⟨_, _, _, _, _, _, _, _, _, _, _, _, _, _, _, _, _, rfl, hB, hh0, hh1, fun _ => rfl, hh3, hh4, hh5, hh6, hh7, hh8, hh9, hh10, hh11, hh12, hh13, hh14, hh15, hh16, hx0, hx1, hx2, hx3, hx4⟩
              · -- operation 3
                cases ho
                obtain rfl := hh1 (hdep ⟨1, .data⟩ (by simp) rfl)
                obtain rfl := hh2 (hdep ⟨2, .data⟩ (by simp) rfl)
                go_simp
                exact hK _ _ ⟨_, _, _, _, _, _, _, _, _, _, _, _, _, _, _, _, _, rfl, hB, hh0, hh1, hh2, fun _ => rfl, hh4, hh5, hh6, hh7, hh8, hh9, hh10, hh11, hh12, hh13, hh14, hh15, hh16, hx0, hx1, hx2, hx3, hx4⟩
              · -- operation 4
                cases ho
                have hd0 := hdep ⟨0, .data⟩ (by simp) rfl
                obtain ⟨g9, rfl, oe⟩ := hh0 hd0 hL
                obtain rfl := hh3 (hdep ⟨3, .data⟩ (by simp) rfl)
                refine step_append rfl (.tmp 42) (.tmp 45) 30 rfl wi.heap.size 3 i0 (.int .i64 0) 1 8 Try.underlying30 hi hz0 hz1 hz2 rfl (by decide) _ 0 _ rfl oe ⟨g0, 0, none⟩ k cp (xs.take k) rfl HT1.out (HN1.out W hB) HO1.out (by unfold maxLen; omega) (by omega) hB.size (fun e => nomatch e) ?_
                intro g1 cap w9 hown hgr
                rw [Nat.zero_add, List.nil_append] at hown
                rw [Nat.zero_add]
                have keep10 : (∃ g, x52 = .slice (some ⟨g, 0, none⟩) 1 1 ∧ ∀ j u, [Value.int .i64 vi][j]? = some u → W.cell? ((⟨g, 0, none⟩ : Addr).add j) = some u) → ∃ g, x52 = .slice (some ⟨g, 0, none⟩) 1 1 ∧ ∀ j u, [Value.int .i64 vi][j]? = some u → w9.cell? ((⟨g, 0, none⟩ : Addr).add j) = some u := fun ⟨gq, e, h⟩ => ⟨gq, e, keep_empty oe hgr h⟩
                exact hK _ _ ⟨_, _, _, _, _, _, _, _, _, _, _, _, _, _, _, _, _, rfl, hB.grown hgr hB.size (fun q e => (oe.lt q e).1), (fun _ q0 => nomatch q0), hh1, hh2, hh3, fun _ => fun _ => ⟨_, _, rfl, hown⟩, hh5, hh6, hh7, hh8, hh9, (fun q0 r0 => keep10 (hh10 q0 r0)), (fun q0 => absurd (hx2 q0) (by rw [hL]; simp)), hh12, hh13, hh14, (fun q0 => absurd (hx2 (hx3 q0)) (by rw [hL]; simp)), (fun q0 => absurd (hx2 (hx3 (hx4 q0))) (by rw [hL]; simp)), hx0, hx1, fun _ => rfl, hx3, hx4⟩
              · -- operation 5
                cases ho
                go_simp
                exact hK _ _ ⟨_, _, _, _, _, _, _, _, _, _, _, _, _, _, _, _, _, rfl, hB, hh0, hh1, hh2, hh3, hh4, fun _ => rfl, hh6, hh7, hh8, hh9, hh10, hh11, hh12, hh13, hh14, hh15, hh16, hx0, hx1, hx2, hx3, hx4⟩
              · -- operation 6
                cases ho
                go_simp
                exact hK _ _ ⟨_, _, _, _, _, _, _, _, _, _, _, _, _, _, _, _, _, rfl, hB, hh0, hh1, hh2, hh3, hh4, hh5, fun _ => rfl, hh7, hh8, hh9, hh10, hh11, hh12, hh13, hh14, hh15, hh16, hx0, hx1, hx2, hx3, hx4⟩
              · -- operation 7
                cases ho
                obtain rfl := hh5 (hdep ⟨5, .data⟩ (by simp) rfl)
                obtain rfl := hh6 (hdep ⟨6, .data⟩ (by simp) rfl)
                go_simp
                exact hK _ _ ⟨_, _, _, _, _, _, _, _, _, _, _, _, _, _, _, _, _, rfl, hB, hh0, hh1, hh2, hh3, hh4, hh5, hh6, fun _ => rfl, hh8, hh9, hh10, hh11, hh12, hh13, hh14, hh15, hh16, hx0, hx1, hx2, hx3, hx4⟩
              · -- operation 8
                cases ho
                obtain rfl := hh7 (hdep ⟨7, .data⟩ (by simp) rfl)
                go_simp
                exact hK _ _ ⟨_, _, _, _, _, _, _, _, _, _, _, _, _, _, _, _, _, rfl, hB, hh0, hh1, hh2, hh3, hh4, hh5, hh6, hh7, fun _ => rfl, hh9, hh10, hh11, hh12, hh13, hh14, hh15, hh16, hx0, hx1, hx2, hx3, hx4⟩
              · -- operation 9
                cases ho
                obtain rfl := hh8 (hdep ⟨8, .data⟩ (by simp) rfl)
                go_simp
                exact hK _ _ ⟨_, _, _, _, _, _, _, _, _, _, _, _, _, _, _, _, _, rfl, hB, hh0, hh1, hh2, hh3, hh4, hh5, hh6, hh7, hh8, fun _ => rfl, hh10, hh11, hh12, hh13, hh14, hh15, hh16, hx0, hx1, hx2, hx3, hx4⟩
              · -- operation 10
                cases ho
                obtain rfl := hh9 (hdep ⟨9, .data⟩ (by simp) rfl)
                go_simp
                exact hK _ _ ⟨_, _, _, _, _, _, _, _, _, _, _, _, _, _, _, _, _, rfl, hB.trans ((Below.alloc (Below.refl W.heap.size W) (Nat.le_refl _) _).mono hB.size), fun q0 r0 => (fun ⟨g, e, o⟩ => ⟨g, e, own_below o (Below.alloc (Below.refl W.heap.size W) (Nat.le_refl _) _)⟩) (hh0 q0 r0), hh1, hh2, hh3, fun q0 r0 => (fun ⟨g, c9, e, o⟩ => ⟨g, c9, e, own_below o (Below.alloc (Below.refl W.heap.size W) (Nat.le_refl _) _)⟩) (hh4 q0 r0), hh5, hh6, hh7, hh8, hh9, fun _ _ => ⟨_, rfl, cell_one_new W _ _⟩, fun q0 r0 => (fun ⟨g, c9, e, o⟩ => ⟨g, c9, e, own_below o (Below.alloc (Below.refl W.heap.size W) (Nat.le_refl _) _)⟩) (hh11 q0 r0), hh12, hh13, hh14, fun q0 => (fun ⟨g, c9, e, h, o⟩ => ⟨g, c9, e, h, own_below o (Below.alloc (Below.refl W.heap.size W) (Nat.le_refl _) _)⟩) (hh15 q0), fun q0 => (fun ⟨g, c9, e, h, o⟩ => ⟨g, c9, e, h, own_below o (Below.alloc (Below.refl W.heap.size W) (Nat.le_refl _) _)⟩) (hh16 q0), hx0, hx1, hx2, hx3, hx4⟩
              · -- operation 11
                cases ho
                have hd4 := hdep ⟨4, .data⟩ (by simp) rfl
                obtain ⟨g9, c9, rfl, oe⟩ := hh4 hd4 hL
                have hd10 := hdep ⟨10, .data⟩ (by simp) rfl
                obtain ⟨gn, rfl, hnew⟩ := hh10 hd10 hL
                refine step_append rfl (.tmp 46) (.tmp 52) 30 rfl wi.heap.size 3 i0 (.int .i64 0) 1 8 Try.underlying30 hi hz0 hz1 hz2 rfl (by decide) _ k _ rfl oe ⟨gn, 0, none⟩ 1 1 [.int .i64 vi] rfl rfl hnew (by simp [Value.oneCell']) (by unfold maxLen; omega) (by omega) hB.size (fun e => nomatch e) ?_
                intro g1 cap w9 hown hgr
                exact hK _ _ ⟨_, _, _, _, _, _, _, _, _, _, _, _, _, _, _, _, _, rfl, hB.grown hgr hB.size (fun q e => (oe.lt q e).1), (fun _ q0 => absurd ((show Fl9 4 = false from q0).symm.trans hd4) (by simp)), hh1, hh2, hh3, (fun _ q0 => nomatch q0), hh5, hh6, hh7, hh8, hh9, (fun _ q0 => nomatch q0), fun _ => fun _ => ⟨_, _, rfl, hown⟩, hh12, hh13, hh14, (fun q0 => absurd (hx3 q0) (by rw [hL]; simp)), (fun q0 => absurd (hx3 (hx4 q0)) (by rw [hL]; simp)), hx0, hx1, fun _ => hd4, fun _ => rfl, hx4⟩
              · -- operation 12
                cases ho
                have hx9 : Fl9 16 = false := by
                  cases hc9 : Fl9 16 with
                  | false => rfl
                  | true => exact absurd (hx0 hc9).2 (by rw [hL]; simp)
                obtain rfl := hx1 hx9
                go_simp
                exact hK _ _ ⟨_, _, _, _, _, _, _, _, _, _, _, _, _, _, _, _, _, rfl, hB, hh0, hh1, hh2, hh3, hh4, hh5, hh6, hh7, hh8, hh9, hh10, hh11, fun _ => rfl, hh13, hh14, hh15, hh16, fun q0 => ⟨(hx0 q0).1, rfl⟩, hx1, hx2, hx3, hx4⟩
              · -- operation 13
                cases ho
                go_simp
                exact hK _ _ ⟨_, _, _, _, _, _, _, _, _, _, _, _, _, _, _, _, _, rfl, hB, hh0, hh1, hh2, hh3, hh4, hh5, hh6, hh7, hh8, hh9, hh10, hh11, hh12, fun _ => rfl, hh14, hh15, hh16, hx0, hx1, hx2, hx3, hx4⟩
              · -- operation 14
                cases ho
                obtain rfl := hh12 (hdep ⟨12, .data⟩ (by simp) rfl)
                obtain rfl := hh13 (hdep ⟨13, .data⟩ (by simp) rfl)
                go_simp
                exact hK _ _ ⟨_, _, _, _, _, _, _, _, _, _, _, _, _, _, _, _, _, rfl, hB, hh0, hh1, hh2, hh3, hh4, hh5, hh6, hh7, hh8, hh9, hh10, hh11, hh12, hh13, fun _ => (by rw [HAQ.out]), hh15, hh16, hx0, hx1, hx2, hx3, hx4⟩
              · -- operation 15
                cases ho
                have hd11 := hdep ⟨11, .data⟩ (by simp) rfl
                obtain ⟨g9, c9, rfl, oe⟩ := hh11 hd11 hL
                obtain rfl := hh14 (hdep ⟨14, .data⟩ (by simp) rfl)
                refine step_append rfl (.tmp 53) (.tmp 56) 30 rfl wi.heap.size 3 i0 (.int .i64 0) 1 8 Try.underlying30 hi hz0 hz1 hz2 rfl (by decide) _ (k + 1) _ rfl oe aq (i - k) (cp - k) (xs.drop k) rfl HT2.out (HN2.out W hB) HO2.out (by unfold maxLen; omega) (by omega) hB.size (fun e => nomatch e) ?_
                intro g1 cap w9 hown hgr
                rw [hki] at hown ⊢
                exact hK _ _ ⟨_, _, _, _, _, _, _, _, _, _, _, _, _, _, _, _, _, rfl, hB.grown hgr hB.size (fun q e => (oe.lt q e).1), (fun _ q0 => absurd ((show Fl9 4 = false from q0).symm.trans (hx2 hd11)) (by simp)), hh1, hh2, hh3, (fun _ q0 => absurd ((show Fl9 11 = false from q0).symm.trans hd11) (by simp)), hh5, hh6, hh7, hh8, hh9, (fun _ q0 => absurd ((show Fl9 11 = false from q0).symm.trans hd11) (by simp)), (fun _ q0 => nomatch q0), hh12, hh13, hh14, fun _ => ⟨_, _, rfl, (hown.lt g1 rfl).1, hown⟩, (fun q0 => absurd (hx4 q0) (by rw [hL]; simp)), hx0, hx1, hx2, fun _ => hd11, fun _ => rfl⟩
              · -- operation 16
                cases ho
                have hd15 := hdep ⟨15, .data⟩ (by simp) rfl
                obtain ⟨g9, c9, rfl, hg9, ho9⟩ := hh15 hd15
                go_simp
                exact hK _ _ ⟨_, _, _, _, _, _, _, _, _, _, _, _, _, _, _, _, _, rfl, hB, hh0, hh1, hh2, hh3, hh4, hh5, hh6, hh7, hh8, hh9, hh10, hh11, hh12, hh13, hh14, hh15, fun _ => ⟨_, _, rfl, hg9, ho9⟩, fun _ => ⟨hdep ⟨1, .phase⟩ (by simp) rfl, hdep ⟨12, .phase⟩ (by simp) rfl⟩, (fun q0 => nomatch q0), hx2, hx3, fun _ => hd15⟩
            intro Fl9 ac W hJ hall
            obtain ⟨x42, x43, x44, x45, x46, x47, x48, x49, x50, x51, x52, x53, x54, x55, x56, x57, x4, rfl, hB, hh0, hh1, hh2, hh3, hh4, hh5, hh6, hh7, hh8, hh9, hh10, hh11, hh12, hh13, hh14, hh15, hh16, -, -, -, -, -⟩ := hJ
            obtain rfl := hh1 (hall 1 (by decide))
            obtain rfl := hh2 (hall 2 (by decide))
            obtain rfl := hh3 (hall 3 (by decide))
            obtain rfl := hh5 (hall 5 (by decide))
            obtain rfl := hh6 (hall 6 (by decide))
            obtain rfl := hh7 (hall 7 (by decide))
            obtain rfl := hh8 (hall 8 (by decide))
            obtain rfl := hh9 (hall 9 (by decide))
            obtain rfl := hh12 (hall 12 (by decide))
            obtain rfl := hh13 (hall 13 (by decide))
            obtain rfl := hh14 (hall 14 (by decide))
            clear hh0
            clear hh4
            clear hh10
            clear hh11
            clear hh15
            obtain ⟨gf, cf, rfl, hgf, hof⟩ := hh16 (hall 16 (by decide))
            clear hall
            have HBE := Lib.hid (HBJ.out.trans (hB.mono HBJ.out.size))
            have HOF := Lib.hid hof
            clear hof hB HN1 HN2 HO1 HO2 HT1 HT2 HVI
            go_wp2_with fail
            go_roundw
            case rel => exact ⟨i + 1, gf, cf, M.take k ++ (⟨vi, vsn, vl, vb, vd, vq⟩ : Ves) :: M.drop k, by omega, by go_num, HORD, rfl, Nat.le_trans (Nat.le_trans HB.out.size HBJ.out.size) hgf, by rw [HXS.out]; exact own_low HOF.out (Nat.le_trans HB.out.size HBJ.out.size), HB.out.trans (HBE.out.mono HB.out.size)⟩
            case measure => simp [intOf]; omega
    · obtain rfl : i = n := by omega
      have hL : L = M.map (·.id) := HLM.out M (by have := hM.out; rwa [List.take_of_length_le (by rw [HI.out.len]; exact Nat.le_refl _)] at this)
      have hLl : i = L.length := by rw [hL, List.length_map, inOrd_len hM.out (by rw [HI.out.len]; exact Nat.le_refl _)]
      rw [← hL] at hown
      have HP := Lib.hid (And.intro hg0 (And.intro hown hb))
      clear hown hb
      go_wp2_with fail
      refine bodyPost_ret (results_tmp2 rfl _ _ _) rfl ?_
      obtain rfl := hLl
      exact ⟨g0, cp, rfl, HP.out.1, HP.out.2.1, HP.out.2.2⟩
end Go.Proofs.Yteeljlpbijmhlab
