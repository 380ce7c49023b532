/- Chapter 7: the shortest order of the model. -/
import Derived.Test.YtgnopkemcgbedabDgQ
namespace Go.Proofs.Ytgnopkemcgbedab
open Go.RowKit Go.PlainAid Go.Sort
set_option linter.unusedVariables false
set_option linter.unusedSimpArgs false

theorem insC_perm {vs M : List TCargo} {V : TCargo} {i k : Nat} (h : M.Perm (vs.take i)) (hi : i < vs.length) (hV : vs.getD i noCargo = V) : (M.take k ++ V :: M.drop k).Perm (vs.take (i + 1)) := by
  have e : vs.take (i + 1) = vs.take i ++ [V] := by
    rw [List.take_add_one, List.getElem?_eq_getElem hi, ← hV, getCargo hi]
    rfl
  rw [e]
  refine List.perm_middle.trans ?_
  rw [List.take_append_drop]
  exact (List.Perm.cons V h).trans (List.perm_append_singleton V (vs.take i)).symm
theorem insC_ord {M : List TCargo} {V : TCargo} {k : Nat} (h : M.Pairwise fun a b => a.x0 < b.x0) (hk : k ≤ M.length) (h1 : k = 0 ∨ (M.getD (k - 1) noCargo).x0 < V.x0) (h2 : ∀ j, k ≤ j → j < M.length → V.x0 < (M.getD j noCargo).x0) :
    (M.take k ++ V :: M.drop k).Pairwise fun a b => a.x0 < b.x0 := by
  have hp := List.pairwise_iff_getElem.1 h
  rw [← List.take_append_drop k M] at h
  obtain ⟨ha, hb, hab⟩ := List.pairwise_append.1 h
  refine List.pairwise_append.2 ⟨ha, List.pairwise_cons.2 ⟨fun b hb' => ?_, hb⟩, fun a ha' b hb' => ?_⟩
  · obtain ⟨j, hj, rfl⟩ := List.mem_iff_getElem.1 hb'
    rw [List.length_drop] at hj
    have := h2 (k + j) (by omega) (by omega)
    rw [getCargo (by omega)] at this
    rw [List.getElem_drop]
    exact this
  · rcases List.mem_cons.1 hb' with rfl | hb'
    · obtain ⟨j, hj, rfl⟩ := List.mem_iff_getElem.1 ha'
      rw [List.length_take] at hj
      rw [List.getElem_take]
      rcases h1 with h1 | h1
      · omega
      · rw [getCargo (by omega)] at h1
        rcases Nat.lt_or_ge j (k - 1) with h3 | h3
        · have := hp j (k - 1) (by omega) (by omega) h3
          omega
        · obtain rfl : j = k - 1 := by omega
          exact h1
    · exact hab a ha' b hb'
theorem insC_ne {vs M : List TCargo} {i : Nat} (h : M.Perm (vs.take i)) (hi : i < vs.length) (hp : vs.Pairwise fun a b => a.x0 ≠ b.x0) {j : Nat} (hj : j < M.length) : (M.getD j noCargo).x0 ≠ (vs.getD i noCargo).x0 := by
  rw [getCargo hj, getCargo hi]
  have hm := h.mem_iff.1 (List.getElem_mem hj)
  obtain ⟨q, hq, e⟩ := List.mem_iff_getElem.1 hm
  rw [List.length_take] at hq
  rw [List.getElem_take] at e
  rw [← e]
  exact List.pairwise_iff_getElem.1 hp q i (by omega) hi (by omega)


set_option maxRecDepth 100000 in
set_option maxHeartbeats 8000000 in
theorem shortS_any {w : World} {B : Nat} {A : Option Addr} {n : Nat} {vs : List TCargo} (c : Nat) (h : IsCargos w B A n vs) (hm : n ≤ 1048576) (L : List Int) (z : Int) (x : Bool) (hA : ShortA vs L z x) (m : Nat) (hl : L.length = m) :
    Calls Try.prog 27 #[.slice A n c] w (GivesZ3 w L m z x) := by
  obtain ⟨i0, hi, hz0, hz1, hz2⟩ := info_parts Try.infoCargo'
  obtain ⟨j0, hj, hy0, hy1, hy2⟩ := info_parts Try.infoInt'
  have C := Lib.hid (l7Good_any c (h.below (below1 w (.cells #[] 3)) h.low) (Nat.le_trans hm (by unfold maxLen; omega)))
  have HZ0 := Lib.hid (OwnZ.nil (Below.refl w.heap.size w))
  have HI := Lib.hid h
  have HNO := Lib.hid hA.2
  have HYES := Lib.hid hA.1
  have HM := Lib.hid hl
  have hm6 : m ≤ 6 := by rw [← hl]; exact shortA_len hA
  obtain ⟨G, hG⟩ : ∃ G, gCs vs = G := ⟨_, rfl⟩
  rw [hG] at HNO HYES C
  have HGE := Lib.hid hG
  clear h hA hG hl
  go_enter Try.func27, Try.ntmps27
  go_wp2_with fail
  refine C.out.mono ?_
  rintro e w1 ⟨rfl, hb⟩
  have HZ1 := Lib.hid (HZ0.out.below hb)
  clear hb C HZ0
  cases G with
  | false =>
    obtain ⟨rfl, rfl, rfl⟩ := HNO.out rfl
    obtain rfl : 0 = m := HM.out
    clear HNO HYES
    go_wp2_with fail
    go_ret3
    exact HZ1.out.gives3 0 false
  | true =>
  obtain ⟨rfl, hS⟩ := HYES.out rfl
  have HS := Lib.hid hS
  have HGG := Lib.hid ((gCs_iff vs).1 HGE.out)
  have hn6 : n ≤ 6 := by rw [← HI.out.len]; exact HGG.out.1
  have HPW := Lib.hid ((goodCs_iff vs).1 HGG.out).2.2
  have HR1 := Lib.hid (show (w1.alloc (.cells #[] 54)).ownsRow w.heap.size 54 3 (.slice (some ⟨w1.heap.size, 0, none⟩) 0 0) 0 (flatCargo []) from own_low (World.ownsRow_made w1 #[] 0 (Nat.le_refl _) (by unfold maxLen; omega) rfl) HZ1.out.low.size)
  have HZ2 := Lib.hid (HZ1.out.below (below1 w1 (.cells #[] 54)))
  clear HNO HYES HGE hS HZ1
  go_wp2_with fail
  go_loopw [6, 7] (fun v i wr => ∃ k : Nat, k ≤ n ∧ i = .int .i64 k ∧ ∃ g0 cp M, v = .slice (some ⟨g0, 0, none⟩) k cp ∧ List.Perm M (vs.take k) ∧ (M.Pairwise fun a b => a.x0 < b.x0) ∧ wr.ownsRow w.heap.size 54 3 (.slice (some ⟨g0, 0, none⟩) k cp) k (flatCargo M) ∧ OwnZ w wr [] 0 (.slice (some ⟨w.heap.size, 0, none⟩) 0 0)) (fun _ i _ => n - (intOf i).toNat)
  case atStart => exact ⟨0, Nat.zero_le _, rfl, _, _, [], rfl, by simp, List.Pairwise.nil, HR1.out, HZ2.out⟩
  case round =>
    clear HR1 HZ2
    obtain ⟨i, hin, rfl, g0, cp, M, rfl, hM1, hM2, hown, hZ⟩ := hrel
    obtain ⟨wo, hwo⟩ : ∃ W, W = wr := ⟨_, rfl⟩
    subst hwo
    have HOW := Lib.hid hown
    have HZo := Lib.hid hZ
    have hMi : M.length = i := by have := hown.1; rw [flatCargo_len] at this; omega
    have HML := Lib.hid hMi
    have HM1 := Lib.hid hM1
    have HM2 := Lib.hid hM2
    clear hown hZ hM1 hM2
    by_cases hlt : i < n
    · have hil : i < vs.length := by rw [HI.out.len]; exact hlt
      have HVA := Lib.hid (fun W (hq : Below w.heap.size w W) => (HI.out.below hq HI.out.low).has.Cargo hil)
      obtain ⟨a, hAa, -, -⟩ := HVA.out _ HZo.out.low
      subst hAa
      have HNE := Lib.hid (fun j (hj : j < M.length) => insC_ne HM1.out hil HPW.out hj)
      have HPE := Lib.hid (fun V (hV : vs.getD i noCargo = V) k => insC_perm (k := k) HM1.out hil hV)
      obtain ⟨V, hV⟩ : ∃ V, vs.getD i noCargo = V := ⟨_, rfl⟩
      have HP := Lib.hid (fun k => HPE.out V hV k)
      rw [hV] at HVA HNE
      clear hV HPE
      obtain ⟨vd, vl, vq⟩ := V
      dsimp only at HNE
      have hi0 : (0 : Int) ≤ (i : Int) := by omega
      have hi1 : (i : Int) < (n : Int) := by omega
      rw [hMi] at HNE
      clear hMi
      go_wp2_with fail
      go_loopw [8] (fun v wr => ∃ k : Nat, k ≤ i ∧ v = .int .i64 k ∧ Hid (∀ j, k ≤ j → j < i → vd < (M.getD j noCargo).x0) ∧ Below wo.heap.size wo wr) (fun v _ => (intOf v).toNat)
      case atStart => exact ⟨i, Nat.le_refl _, rfl, Lib.hid (fun j h1 h2 => absurd h1 (by omega)), Below.refl _ _⟩
      case round =>
        obtain ⟨k, hk, rfl, hAf, hb⟩ := hrel
        have HBI := Lib.hid hb
        have hkn0 : (0 : Int) ≤ (k : Int) := by omega
        have hkn1 : (k : Int) ≤ (i : Int) := by omega
        have HPERM := Lib.hid (HP.out k)
        have HINS := Lib.hid (fun h1 => insC_ord (V := ⟨vd, vl, vq⟩) (k := k) HM2.out (by rw [HML.out]; exact hk) h1 (fun j h2 h3 => hAf.out j h2 (by rw [← HML.out]; exact h3)))
        clear hb
        rcases Nat.eq_zero_or_pos k with h0 | h0
        · have hkz : ¬ 0 < k := by omega
          have HORD := Lib.hid (HINS.out (.inl h0))
          clear h0 HINS
          go_wp2_with fail
          refine wp_region_quiet_below (by kernel_rfl) (by kernel_rfl) ?_
          repeat (go_big_quiet_step (first | fail))
          refine wpQuiet_nil ?_
          intro _ hw'
          obtain ⟨⟨dq, osq⟩, hw''⟩ := hw'
          subst hw''
          have HBJ := Lib.hid (HBI.out.trans ((below_regrown wr dq osq).mono HBI.out.size))
          obtain ⟨wi, hwi⟩ : ∃ W, grow (redrawn wr dq) osq = W := ⟨_, rfl⟩
          rw [hwi] at HBJ
          try simp only [hwi]
          clear hwi HBI HP HNE
          have HOWi := Lib.hid (own_below HOW.out HBJ.out)
          have HZi := Lib.hid (HZo.out.below HBJ.out)
          have HIM := Lib.hid (own_Cargos HOWi.out)
          have hcp : i ≤ cp := own_capC HOW.out
          have hkcp : k ≤ cp := by omega
          have HT1 : Hid ((flatCargo (M.take k)).length = k * 3) := Lib.hid (by rw [flatCargo_len, List.length_take, HML.out]; omega)
          have HT2 : Hid ((flatCargo (M.drop k)).length = (i - k) * 3) := Lib.hid (by rw [flatCargo_len, List.length_drop, HML.out]; omega)
          have HN1 := Lib.hid (fun W (hq : Below wi.heap.size wi W) => hasC_take (k := k) (HIM.out.below hq (Nat.le_refl _)))
          obtain ⟨aq, haq⟩ : ∃ aq, (if cp = k then some ⟨g0, 0, none⟩ else some ⟨g0, k * 3, none⟩ : Option Addr) = some aq := by split <;> exact ⟨_, rfl⟩
          have HAQ := Lib.hid haq
          have HN2 := Lib.hid (fun W (hq : Below wi.heap.size wi W) => hasC_drop (k := k) (aq := aq) (HIM.out.below hq (Nat.le_refl _)) hcp (by rw [addO, Nat.zero_add]; exact HAQ.out))
          have HXS : Hid (flatCargo (M.take k ++ (⟨vd, vl, vq⟩ : TCargo) :: M.drop k) = flatCargo (M.take k) ++ [.int .i64 vd, .int .i64 vl, .int .i64 vq] ++ flatCargo (M.drop k)) := Lib.hid (by rw [flatCargo_append, flatCargo, List.append_assoc]; rfl)
          have hki : k + 1 + (i - k) = i + 1 := by omega
          obtain ⟨aV, eV, hlv, HVc⟩ := HVA.out _ (HZi.out.low)
          injection eV with eV
          subst eV
          obtain ⟨f0, f1, f2⟩ := HVc
          dsimp only at f0 f1 f2
          have lV := World.block_lt_of_cell? _ _ f0
          clear haq hAf HML HOW HZo HBJ HIM HOWi
          go_wp2_with fail
          refine region_inv (by kernel_rfl) (by kernel_rfl) (fun Fl9 ac W => ∃ (x44 x45 x46 x47 x48 x49 x50 x51 x52 x53 x54 x55 x56 x57 x58 x6 : Value), ac = { tmps := #[Value.slice (some a) n c, undef, Value.slice none 0 0, Value.int IntKind.i64 0, Value.bool false, Value.slice (some ⟨w.heap.size, 0, none⟩) 0 0, x6, Value.int IntKind.i64 (i : Int), Value.int IntKind.i64 (k : Int), undef, undef, undef, Value.slice (some ⟨w.heap.size, 0, none⟩) 0 0, Value.slice (some a) n c, Value.bool true, Value.bool false, undef, Value.slice (some ⟨w1.heap.size, 0, none⟩) 0 0, Value.int IntKind.i64 (i : Int), Value.slice (some a) n c, Value.int IntKind.i64 (n : Int), Value.bool true, u22, u23, Value.slice (some ⟨g0, 0, none⟩) i cp, Value.int IntKind.i64 (i : Int), Value.int IntKind.i64 (k : Int), Value.bool false, Value.bool false, undef, undef, undef, undef, undef, undef, undef, undef, undef, undef, undef, undef, Value.bool false, u42, u43, x44, x45, x46, x47, x48, x49, x50, x51, x52, x53, x54, x55, x56, x57, x58, undef, undef, undef, undef, undef, undef, undef, undef, undef, undef, undef, undef, undef, undef, undef, undef, undef, undef, undef, undef, undef, undef], defers := [] } ∧ Below wi.heap.size wi W ∧
                (Fl9 0 = true → Fl9 4 = false → ∃ g, x44 = .slice (some ⟨g, 0, none⟩) 0 0 ∧ W.ownsRow wi.heap.size 54 3 (.slice (some ⟨g, 0, none⟩) 0 0) 0 []) ∧
                (Fl9 1 = true → x45 = .slice (some ⟨g0, 0, none⟩) i cp) ∧
                (Fl9 2 = true → x46 = .int .i64 (k : Int)) ∧
                (Fl9 3 = true → x47 = .slice (some ⟨g0, 0, none⟩) k cp) ∧
                (Fl9 4 = true → Fl9 10 = false → ∃ g c9, x48 = .slice (some ⟨g, 0, none⟩) k c9 ∧ W.ownsRow wi.heap.size 54 3 (.slice (some ⟨g, 0, none⟩) k c9) k (flatCargo (M.take k))) ∧
                (Fl9 5 = true → x49 = .slice (some a) n c) ∧
                (Fl9 6 = true → x50 = .int .i64 (i : Int)) ∧
                (Fl9 7 = true → x51 = .pointer (some (a.add (i * 3)))) ∧
                (Fl9 8 = true → x52 = .agg #[.int .i64 vd, .int .i64 vl, .int .i64 vq]) ∧
                (Fl9 9 = true → Fl9 10 = false → ∃ g, x53 = .slice (some ⟨g, 0, none⟩) 1 1 ∧ ∀ j u, [Value.int .i64 vd, Value.int .i64 vl, Value.int .i64 vq][j]? = some u → W.cell? ((⟨g, 0, none⟩ : Addr).add j) = some u) ∧
                (Fl9 10 = true → Fl9 14 = false → ∃ g c9, x54 = .slice (some ⟨g, 0, none⟩) (k + 1) c9 ∧ W.ownsRow wi.heap.size 54 3 (.slice (some ⟨g, 0, none⟩) (k + 1) c9) (k + 1) (flatCargo (M.take k) ++ [Value.int .i64 vd, Value.int .i64 vl, Value.int .i64 vq])) ∧
                (Fl9 11 = true → x55 = .slice (some ⟨g0, 0, none⟩) i cp) ∧
                (Fl9 12 = true → x56 = .int .i64 (k : Int)) ∧
                (Fl9 13 = true → x57 = .slice (some aq) (i - k) (cp - k)) ∧
                (Fl9 14 = true → ∃ g c9, x58 = .slice (some ⟨g, 0, none⟩) (i + 1) c9 ∧ W.ownsRow wi.heap.size 54 3 (.slice (some ⟨g, 0, none⟩) (i + 1) c9) (i + 1) (flatCargo (M.take k) ++ [Value.int .i64 vd, Value.int .i64 vl, Value.int .i64 vq] ++ flatCargo (M.drop k))) ∧
                (Fl9 15 = true → ∃ g c9, x6 = .slice (some ⟨g, 0, none⟩) (i + 1) c9 ∧ W.ownsRow wi.heap.size 54 3 (.slice (some ⟨g, 0, none⟩) (i + 1) c9) (i + 1) (flatCargo (M.take k) ++ [Value.int .i64 vd, Value.int .i64 vl, Value.int .i64 vq] ++ flatCargo (M.drop k))) ∧
                (Fl9 15 = true → Fl9 1 = true ∧ Fl9 11 = true) ∧
                (Fl9 15 = false → x6 = .slice (some ⟨g0, 0, none⟩) i cp) ∧
                (Fl9 10 = true → Fl9 4 = true) ∧
                (Fl9 14 = true → Fl9 10 = true) ∧
                (Fl9 15 = true → Fl9 14 = true)) ?_ ?_ ?_
          · exact ⟨_, _, _, _, _, _, _, _, _, _, _, _, _, _, _, _, rfl, (Drawn.one wi 1).below _, (fun q0 => nomatch q0), (fun q0 => nomatch q0), (fun q0 => nomatch q0), (fun q0 => nomatch q0), (fun q0 => nomatch q0), (fun q0 => nomatch q0), (fun q0 => nomatch q0), (fun q0 => nomatch q0), (fun q0 => nomatch q0), (fun q0 => nomatch q0), (fun q0 => nomatch q0), (fun q0 => nomatch q0), (fun q0 => nomatch q0), (fun q0 => nomatch q0), (fun q0 => nomatch q0), (fun q0 => nomatch q0), (fun q0 => nomatch q0), (fun _ => rfl), (fun q0 => nomatch q0), (fun q0 => nomatch q0), (fun q0 => nomatch q0)⟩
          · intro Fl9 ac W i9 o9 hJ ho hL hdep K9 hK
            obtain ⟨x44, x45, x46, x47, x48, x49, x50, x51, x52, x53, x54, x55, x56, x57, x58, x6, rfl, hB, hh0, hh1, hh2, hh3, hh4, hh5, hh6, hh7, hh8, hh9, hh10, hh11, hh12, hh13, hh14, hh15, hx0, hx1, hx2, hx3, hx4⟩ := hJ
            have hi9 : i9 < 16 := by simpa using (Array.getElem?_eq_some_iff.1 ho).1
            have C0 := (hB.cell lV).trans f0
            have C1 := (hB.cell (p := ⟨(a.add (i * 3)).block, (a.add (i * 3)).off + 1, none⟩) lV).trans f1
            have C2 := (hB.cell (p := ⟨(a.add (i * 3)).block, (a.add (i * 3)).off + 2, none⟩) lV).trans f2
            obtain rfl | rfl | rfl | rfl | rfl | rfl | rfl | rfl | rfl | rfl | rfl | rfl | rfl | rfl | rfl | rfl : i9 = 0 ∨ i9 = 1 ∨ i9 = 2 ∨ i9 = 3 ∨ i9 = 4 ∨ i9 = 5 ∨ i9 = 6 ∨ i9 = 7 ∨ i9 = 8 ∨ i9 = 9 ∨ i9 = 10 ∨ i9 = 11 ∨ i9 = 12 ∨ i9 = 13 ∨ i9 = 14 ∨ i9 = 15 := by omega
            · -- operation 0
              cases ho
              go_simp
              exact hK _ _ ⟨_, _, _, _, _, _, _, _, _, _, _, _, _, _, _, _, rfl, hB.trans ((Below.alloc (Below.refl W.heap.size W) (Nat.le_refl _) _).mono hB.size), fun _ _ => ⟨_, rfl, own_low (World.ownsRow_made W #[] 0 (Nat.le_refl _) (by unfold maxLen; omega) rfl) hB.size⟩, hh1, hh2, hh3, fun q0 r0 => (fun ⟨g, c9, e, o⟩ => ⟨g, c9, e, own_below o (Below.alloc (Below.refl W.heap.size W) (Nat.le_refl _) _)⟩) (hh4 q0 r0), hh5, hh6, hh7, hh8, fun q0 r0 => (fun ⟨g, e, h⟩ => ⟨g, e, fun j u hu => (Below.cell (Below.alloc (Below.refl W.heap.size W) (Nat.le_refl _) _) (World.block_lt_of_cell? W _ (h j u hu))).trans (h j u hu)⟩) (hh9 q0 r0), fun q0 r0 => (fun ⟨g, c9, e, o⟩ => ⟨g, c9, e, own_below o (Below.alloc (Below.refl W.heap.size W) (Nat.le_refl _) _)⟩) (hh10 q0 r0), hh11, hh12, hh13, fun q0 => (fun ⟨g, c9, e, o⟩ => ⟨g, c9, e, own_below o (Below.alloc (Below.refl W.heap.size W) (Nat.le_refl _) _)⟩) (hh14 q0), fun q0 => (fun ⟨g, c9, e, o⟩ => ⟨g, c9, e, own_below o (Below.alloc (Below.refl W.heap.size W) (Nat.le_refl _) _)⟩) (hh15 q0), hx0, hx1, hx2, hx3, hx4⟩
            · -- operation 1
              cases ho
              have hx9 : Fl9 15 = false := by
                cases hc9 : Fl9 15 with
                | false => rfl
                | true => exact absurd (hx0 hc9).1 (by rw [hL]; simp)
              obtain rfl := hx1 hx9
              go_simp
              exact hK _ _ ⟨_, _, _, _, _, _, _, _, _, _, _, _, _, _, _, _, rfl, hB, hh0, fun _ => rfl, hh2, hh3, hh4, hh5, hh6, hh7, hh8, hh9, hh10, hh11, hh12, hh13, hh14, hh15, fun q0 => ⟨rfl, (hx0 q0).2⟩, hx1, hx2, hx3, hx4⟩
            · -- operation 2
              cases ho
              go_simp
              exact hK _ _ ⟨_, _, _, _, _, _, _, _, _, _, _, _, _, _, _, _, rfl, hB, hh0, hh1, fun _ => rfl, hh3, hh4, hh5, hh6, hh7, hh8, hh9, hh10, hh11, hh12, hh13, hh14, hh15, hx0, hx1, hx2, hx3, hx4⟩
            · -- operation 3
              cases ho
              obtain rfl := hh1 (hdep ⟨1, .data⟩ (by simp) rfl)
              obtain rfl := hh2 (hdep ⟨2, .data⟩ (by simp) rfl)
              go_simp
              exact hK _ _ ⟨_, _, _, _, _, _, _, _, _, _, _, _, _, _, _, _, rfl, hB, hh0, hh1, hh2, fun _ => rfl, hh4, hh5, hh6, hh7, hh8, hh9, hh10, hh11, hh12, hh13, hh14, hh15, hx0, hx1, hx2, hx3, hx4⟩
            · -- operation 4
              cases ho
              have hd0 := hdep ⟨0, .data⟩ (by simp) rfl
              obtain ⟨g9, rfl, oe⟩ := hh0 hd0 hL
              obtain rfl := hh3 (hdep ⟨3, .data⟩ (by simp) rfl)
              refine step_append rfl (.tmp 44) (.tmp 47) 42 rfl wi.heap.size 54 i0 (.agg #[.int .i64 0, .int .i64 0, .int .i64 0]) 3 24 Try.underlying42 hi hz0 hz1 hz2 rfl (by decide) _ 0 _ rfl oe ⟨g0, 0, none⟩ k cp (flatCargo (M.take k)) rfl HT1.out (HN1.out W hB) (flatCargo_one _) (by unfold maxLen; omega) (by omega) hB.size (fun e => nomatch e) ?_
              intro g1 cap w9 hown hgr
              rw [Nat.zero_add, List.nil_append] at hown
              rw [Nat.zero_add]
              have keep10 : (∃ g, x53 = .slice (some ⟨g, 0, none⟩) 1 1 ∧ ∀ j u, [Value.int .i64 vd, Value.int .i64 vl, Value.int .i64 vq][j]? = some u → W.cell? ((⟨g, 0, none⟩ : Addr).add j) = some u) → ∃ g, x53 = .slice (some ⟨g, 0, none⟩) 1 1 ∧ ∀ j u, [Value.int .i64 vd, Value.int .i64 vl, Value.int .i64 vq][j]? = some u → w9.cell? ((⟨g, 0, none⟩ : Addr).add j) = some u := fun ⟨gq, e, h⟩ => ⟨gq, e, keep_empty oe hgr h⟩
              exact hK _ _ ⟨_, _, _, _, _, _, _, _, _, _, _, _, _, _, _, _, rfl, hB.grown hgr hB.size (fun q e => (oe.lt q e).1), (fun _ q0 => nomatch q0), hh1, hh2, hh3, fun _ => fun _ => ⟨_, _, rfl, hown⟩, hh5, hh6, hh7, hh8, (fun q0 r0 => keep10 (hh9 q0 r0)), (fun q0 => absurd (hx2 q0) (by rw [hL]; simp)), hh11, hh12, hh13, (fun q0 => absurd (hx2 (hx3 q0)) (by rw [hL]; simp)), (fun q0 => absurd (hx2 (hx3 (hx4 q0))) (by rw [hL]; simp)), hx0, hx1, fun _ => rfl, hx3, hx4⟩
            · -- operation 5
              cases ho
              go_simp
              exact hK _ _ ⟨_, _, _, _, _, _, _, _, _, _, _, _, _, _, _, _, rfl, hB, hh0, hh1, hh2, hh3, hh4, fun _ => rfl, hh6, hh7, hh8, hh9, hh10, hh11, hh12, hh13, hh14, hh15, hx0, hx1, hx2, hx3, hx4⟩
            · -- operation 6
              cases ho
              go_simp
              exact hK _ _ ⟨_, _, _, _, _, _, _, _, _, _, _, _, _, _, _, _, rfl, hB, hh0, hh1, hh2, hh3, hh4, hh5, fun _ => rfl, hh7, hh8, hh9, hh10, hh11, hh12, hh13, hh14, hh15, hx0, hx1, hx2, hx3, hx4⟩
            · -- operation 7
              cases ho
              obtain rfl := hh5 (hdep ⟨5, .data⟩ (by simp) rfl)
              obtain rfl := hh6 (hdep ⟨6, .data⟩ (by simp) rfl)
              go_simp
              exact hK _ _ ⟨_, _, _, _, _, _, _, _, _, _, _, _, _, _, _, _, rfl, hB, hh0, hh1, hh2, hh3, hh4, hh5, hh6, fun _ => rfl, hh8, hh9, hh10, hh11, hh12, hh13, hh14, hh15, hx0, hx1, hx2, hx3, hx4⟩
            · -- operation 8
              cases ho
              obtain rfl := hh7 (hdep ⟨7, .data⟩ (by simp) rfl)
              go_simp
              exact hK _ _ ⟨_, _, _, _, _, _, _, _, _, _, _, _, _, _, _, _, rfl, hB, hh0, hh1, hh2, hh3, hh4, hh5, hh6, hh7, fun _ => rfl, hh9, hh10, hh11, hh12, hh13, hh14, hh15, hx0, hx1, hx2, hx3, hx4⟩
            · -- operation 9
              cases ho
              obtain rfl := hh8 (hdep ⟨8, .data⟩ (by simp) rfl)
              go_simp
              exact hK _ _ ⟨_, _, _, _, _, _, _, _, _, _, _, _, _, _, _, _, rfl, hB.trans ((Below.alloc (Below.refl W.heap.size W) (Nat.le_refl _) _).mono hB.size), fun q0 r0 => (fun ⟨g, e, o⟩ => ⟨g, e, own_below o (Below.alloc (Below.refl W.heap.size W) (Nat.le_refl _) _)⟩) (hh0 q0 r0), hh1, hh2, hh3, fun q0 r0 => (fun ⟨g, c9, e, o⟩ => ⟨g, c9, e, own_below o (Below.alloc (Below.refl W.heap.size W) (Nat.le_refl _) _)⟩) (hh4 q0 r0), hh5, hh6, hh7, hh8, fun _ _ => ⟨_, rfl, cell_three_new W _ _ _ _⟩, fun q0 r0 => (fun ⟨g, c9, e, o⟩ => ⟨g, c9, e, own_below o (Below.alloc (Below.refl W.heap.size W) (Nat.le_refl _) _)⟩) (hh10 q0 r0), hh11, hh12, hh13, fun q0 => (fun ⟨g, c9, e, o⟩ => ⟨g, c9, e, own_below o (Below.alloc (Below.refl W.heap.size W) (Nat.le_refl _) _)⟩) (hh14 q0), fun q0 => (fun ⟨g, c9, e, o⟩ => ⟨g, c9, e, own_below o (Below.alloc (Below.refl W.heap.size W) (Nat.le_refl _) _)⟩) (hh15 q0), hx0, hx1, hx2, hx3, hx4⟩
            · -- operation 10
              cases ho
              have hd4 := hdep ⟨4, .data⟩ (by simp) rfl
              obtain ⟨g9, c9, rfl, oe⟩ := hh4 hd4 hL
              have hd9 := hdep ⟨9, .data⟩ (by simp) rfl
              obtain ⟨gn, rfl, hnew⟩ := hh9 hd9 hL
              refine step_append rfl (.tmp 48) (.tmp 53) 42 rfl wi.heap.size 54 i0 (.agg #[.int .i64 0, .int .i64 0, .int .i64 0]) 3 24 Try.underlying42 hi hz0 hz1 hz2 rfl (by decide) _ k _ rfl oe ⟨gn, 0, none⟩ 1 1 [Value.int .i64 vd, Value.int .i64 vl, Value.int .i64 vq] rfl rfl hnew (by simp [Value.oneCell']) (by unfold maxLen; omega) (by omega) hB.size (fun e => nomatch e) ?_
              intro g1 cap w9 hown hgr
              exact hK _ _ ⟨_, _, _, _, _, _, _, _, _, _, _, _, _, _, _, _, rfl, hB.grown hgr hB.size (fun q e => (oe.lt q e).1), (fun _ q0 => absurd ((show Fl9 4 = false from q0).symm.trans hd4) (by simp)), hh1, hh2, hh3, (fun _ q0 => nomatch q0), hh5, hh6, hh7, hh8, (fun _ q0 => nomatch q0), fun _ => fun _ => ⟨_, _, rfl, hown⟩, hh11, hh12, hh13, (fun q0 => absurd (hx3 q0) (by rw [hL]; simp)), (fun q0 => absurd (hx3 (hx4 q0)) (by rw [hL]; simp)), hx0, hx1, fun _ => hd4, fun _ => rfl, hx4⟩
            · -- operation 11
              cases ho
              have hx9 : Fl9 15 = false := by
                cases hc9 : Fl9 15 with
                | false => rfl
                | true => exact absurd (hx0 hc9).2 (by rw [hL]; simp)
              obtain rfl := hx1 hx9
              go_simp
              exact hK _ _ ⟨_, _, _, _, _, _, _, _, _, _, _, _, _, _, _, _, rfl, hB, hh0, hh1, hh2, hh3, hh4, hh5, hh6, hh7, hh8, hh9, hh10, fun _ => rfl, hh12, hh13, hh14, hh15, fun q0 => ⟨(hx0 q0).1, rfl⟩, hx1, hx2, hx3, hx4⟩
            · -- operation 12
              cases ho
              go_simp
              exact hK _ _ ⟨_, _, _, _, _, _, _, _, _, _, _, _, _, _, _, _, rfl, hB, hh0, hh1, hh2, hh3, hh4, hh5, hh6, hh7, hh8, hh9, hh10, hh11, fun _ => rfl, hh13, hh14, hh15, hx0, hx1, hx2, hx3, hx4⟩
            · -- operation 13
              cases ho
              obtain rfl := hh11 (hdep ⟨11, .data⟩ (by simp) rfl)
              obtain rfl := hh12 (hdep ⟨12, .data⟩ (by simp) rfl)
              go_simp
              exact hK _ _ ⟨_, _, _, _, _, _, _, _, _, _, _, _, _, _, _, _, rfl, hB, hh0, hh1, hh2, hh3, hh4, hh5, hh6, hh7, hh8, hh9, hh10, hh11, hh12, fun _ => (by rw [HAQ.out]), hh14, hh15, hx0, hx1, hx2, hx3, hx4⟩
            · -- operation 14
              cases ho
              have hd10 := hdep ⟨10, .data⟩ (by simp) rfl
              obtain ⟨g9, c9, rfl, oe⟩ := hh10 hd10 hL
              obtain rfl := hh13 (hdep ⟨13, .data⟩ (by simp) rfl)
              refine step_append rfl (.tmp 54) (.tmp 57) 42 rfl wi.heap.size 54 i0 (.agg #[.int .i64 0, .int .i64 0, .int .i64 0]) 3 24 Try.underlying42 hi hz0 hz1 hz2 rfl (by decide) _ (k + 1) _ rfl oe aq (i - k) (cp - k) (flatCargo (M.drop k)) rfl HT2.out (HN2.out W hB) (flatCargo_one _) (by unfold maxLen; omega) (by omega) hB.size (fun e => nomatch e) ?_
              intro g1 cap w9 hown hgr
              rw [hki] at hown ⊢
              exact hK _ _ ⟨_, _, _, _, _, _, _, _, _, _, _, _, _, _, _, _, rfl, hB.grown hgr hB.size (fun q e => (oe.lt q e).1), (fun _ q0 => absurd ((show Fl9 4 = false from q0).symm.trans (hx2 hd10)) (by simp)), hh1, hh2, hh3, (fun _ q0 => absurd ((show Fl9 10 = false from q0).symm.trans hd10) (by simp)), hh5, hh6, hh7, hh8, (fun _ q0 => absurd ((show Fl9 10 = false from q0).symm.trans hd10) (by simp)), (fun _ q0 => nomatch q0), hh11, hh12, hh13, fun _ => ⟨_, _, rfl, hown⟩, (fun q0 => absurd (hx4 q0) (by rw [hL]; simp)), hx0, hx1, hx2, fun _ => hd10, fun _ => rfl⟩
            · -- operation 15
              cases ho
              have hd14 := hdep ⟨14, .data⟩ (by simp) rfl
              obtain ⟨g9, c9, rfl, ho9⟩ := hh14 hd14
              go_simp
              exact hK _ _ ⟨_, _, _, _, _, _, _, _, _, _, _, _, _, _, _, _, rfl, hB, hh0, hh1, hh2, hh3, hh4, hh5, hh6, hh7, hh8, hh9, hh10, hh11, hh12, hh13, hh14, fun _ => ⟨_, _, rfl, ho9⟩, fun _ => ⟨hdep ⟨1, .phase⟩ (by simp) rfl, hdep ⟨11, .phase⟩ (by simp) rfl⟩, (fun q0 => nomatch q0), hx2, hx3, fun _ => hd14⟩
          intro Fl9 ac W hJ hall
          obtain ⟨x44, x45, x46, x47, x48, x49, x50, x51, x52, x53, x54, x55, x56, x57, x58, x6, rfl, hB, hh0, hh1, hh2, hh3, hh4, hh5, hh6, hh7, hh8, hh9, hh10, hh11, hh12, hh13, hh14, hh15, -, -, -, -, -⟩ := hJ
          obtain rfl := hh1 (hall 1 (by decide))
          obtain rfl := hh2 (hall 2 (by decide))
          obtain rfl := hh3 (hall 3 (by decide))
          obtain rfl := hh5 (hall 5 (by decide))
          obtain rfl := hh6 (hall 6 (by decide))
          obtain rfl := hh7 (hall 7 (by decide))
          obtain rfl := hh8 (hall 8 (by decide))
          obtain rfl := hh11 (hall 11 (by decide))
          obtain rfl := hh12 (hall 12 (by decide))
          obtain rfl := hh13 (hall 13 (by decide))
          clear hh0
          clear hh4
          clear hh9
          clear hh10
          clear hh14
          obtain ⟨gf, cf, rfl, hof⟩ := hh15 (hall 15 (by decide))
          clear hall
          have HBE := Lib.hid hB
          have HOF := Lib.hid hof
          have HZe := Lib.hid (HZi.out.below hB)
          have hwi0 := HZi.out.low.size
          clear hof hB HN1 HN2 HT1 HT2 f0 f1 f2 lV hlv HZi
          go_wp2_with fail
          go_roundw
          case rel => exact ⟨i + 1, by omega, by go_num, gf, cf, _, rfl, HPERM.out, HORD.out, by rw [HXS.out]; exact own_low HOF.out hwi0, HZe.out⟩
          case measure => simp [intOf]; omega
        · obtain ⟨k', rfl⟩ : ∃ k', k = k' + 1 := ⟨k - 1, by omega⟩
          have HOr := Lib.hid (own_below HOW.out HBI.out)
          obtain ⟨aU, eU, -, hU⟩ := (own_Cargos HOr.out).has.Cargo (k := k') (by rw [HML.out]; omega)
          injection eU with eU
          subst eU
          have u0 := hU.c0
          rw [addO, Nat.zero_add] at u0
          obtain ⟨aV, eV, -, hVc⟩ := HVA.out _ (HZo.out.below HBI.out).low
          injection eV with eV
          subst eV
          have v0 := hVc.c0
          dsimp only at v0
          have hne := HNE.out k' (by omega)
          have HAl := Lib.hid (fun (h9 : vd < (M.getD k' noCargo).x0) j (h1 : k' ≤ j) (h2 : j < i) => show vd < (M.getD j noCargo).x0 from by
            rcases Nat.eq_or_lt_of_le h1 with h3 | h3
            · rw [← h3]; exact h9
            · exact hAf.out j h3 h2)
          have HORq := Lib.hid (fun (h9 : (M.getD k' noCargo).x0 < vd) => HINS.out (.inr h9))
          obtain ⟨ud, hud⟩ : ∃ u, (M.getD k' noCargo).x0 = u := ⟨_, rfl⟩
          rw [hud] at u0 hne HAl HORq
          have U0 := fun (d : Nat) (os : Array Obj) => cell_regrown u0 d os
          have V0 := fun (d : Nat) (os : Array Obj) => cell_regrown v0 d os
          have hkp : 0 < k' + 1 := by omega
          have hk0' : (0 : Int) ≤ (k' : Int) := by omega
          have hk1' : (k' : Int) < (i : Int) := by omega
          clear hU hVc u0 v0 hud h0 HINS HOr
          by_cases hgt : vd < ud
          · have HAF := Lib.hid (HAl.out hgt)
            clear HAl HORq hne hAf HPERM
            go_wp2_with fail
            refine wp_region_quiet_below (by kernel_rfl) (by kernel_rfl) ?_
            repeat (go_big_quiet_step (first | fail))
            refine wpQuiet_nil ?_
            intro _ hw'
            obtain ⟨⟨dq, osq⟩, hw''⟩ := hw'
            subst hw''
            have HBJ := Lib.hid (HBI.out.trans ((below_regrown wr dq osq).mono HBI.out.size))
            clear U0 V0
            go_wp2_with fail
            go_roundw
            case rel => exact ⟨k', by omega, by go_num, HAF, HBJ.out⟩
            case measure => simp [intOf]
          · have HORD := Lib.hid (HORq.out (by omega))
            have hgt2 : ud < vd := by omega
            clear HAl HORq hne
            go_wp2_with fail
            refine wp_region_quiet_below (by kernel_rfl) (by kernel_rfl) ?_
            repeat (go_big_quiet_step (first | fail))
            refine wpQuiet_nil ?_
            intro _ hw'
            obtain ⟨⟨dq, osq⟩, hw''⟩ := hw'
            subst hw''
            have HBJ := Lib.hid (HBI.out.trans ((below_regrown wr dq osq).mono HBI.out.size))
            obtain ⟨wi, hwi⟩ : ∃ W, grow (redrawn wr dq) osq = W := ⟨_, rfl⟩
            rw [hwi] at HBJ
            try simp only [hwi]
            clear hwi HBI HP HNE U0 V0
            obtain ⟨k, hkk⟩ : ∃ k, k = k' + 1 := ⟨_, rfl⟩
            have hkc : (k' : Int) + 1 = (k : Int) := by rw [hkk]; simp
            rw [← hkk] at HORD HPERM hk hAf
            rw [hkc]
            have hkn2 : (k : Int) ≤ (i : Int) := by omega
            have hkn3 : (0 : Int) ≤ (k : Int) := by omega
            clear hkn0 hkn1 hkp hkc hkk
            have HOWi := Lib.hid (own_below HOW.out HBJ.out)
            have HZi := Lib.hid (HZo.out.below HBJ.out)
            have HIM := Lib.hid (own_Cargos HOWi.out)
            have hcp : i ≤ cp := own_capC HOW.out
            have hkcp : k ≤ cp := by omega
            have HT1 : Hid ((flatCargo (M.take k)).length = k * 3) := Lib.hid (by rw [flatCargo_len, List.length_take, HML.out]; omega)
            have HT2 : Hid ((flatCargo (M.drop k)).length = (i - k) * 3) := Lib.hid (by rw [flatCargo_len, List.length_drop, HML.out]; omega)
            have HN1 := Lib.hid (fun W (hq : Below wi.heap.size wi W) => hasC_take (k := k) (HIM.out.below hq (Nat.le_refl _)))
            obtain ⟨aq, haq⟩ : ∃ aq, (if cp = k then some ⟨g0, 0, none⟩ else some ⟨g0, k * 3, none⟩ : Option Addr) = some aq := by split <;> exact ⟨_, rfl⟩
            have HAQ := Lib.hid haq
            have HN2 := Lib.hid (fun W (hq : Below wi.heap.size wi W) => hasC_drop (k := k) (aq := aq) (HIM.out.below hq (Nat.le_refl _)) hcp (by rw [addO, Nat.zero_add]; exact HAQ.out))
            have HXS : Hid (flatCargo (M.take k ++ (⟨vd, vl, vq⟩ : TCargo) :: M.drop k) = flatCargo (M.take k) ++ [.int .i64 vd, .int .i64 vl, .int .i64 vq] ++ flatCargo (M.drop k)) := Lib.hid (by rw [flatCargo_append, flatCargo, List.append_assoc]; rfl)
            have hki : k + 1 + (i - k) = i + 1 := by omega
            obtain ⟨aV, eV, hlv, HVc⟩ := HVA.out _ (HZi.out.low)
            injection eV with eV
            subst eV
            obtain ⟨f0, f1, f2⟩ := HVc
            dsimp only at f0 f1 f2
            have lV := World.block_lt_of_cell? _ _ f0
            clear haq hAf HML HOW HZo HBJ HIM HOWi
            go_wp2_with fail
            refine region_inv (by kernel_rfl) (by kernel_rfl) (fun Fl9 ac W => ∃ (x44 x45 x46 x47 x48 x49 x50 x51 x52 x53 x54 x55 x56 x57 x58 x6 : Value), ac = { tmps := #[Value.slice (some a) n c, undef, Value.slice none 0 0, Value.int IntKind.i64 0, Value.bool false, Value.slice (some ⟨w.heap.size, 0, none⟩) 0 0, x6, Value.int IntKind.i64 (i : Int), Value.int IntKind.i64 (k : Int), undef, undef, undef, Value.slice (some ⟨w.heap.size, 0, none⟩) 0 0, Value.slice (some a) n c, Value.bool true, Value.bool false, undef, Value.slice (some ⟨w1.heap.size, 0, none⟩) 0 0, Value.int IntKind.i64 (i : Int), Value.slice (some a) n c, Value.int IntKind.i64 (n : Int), Value.bool true, u22, u23, Value.slice (some ⟨g0, 0, none⟩) i cp, Value.int IntKind.i64 (i : Int), Value.int IntKind.i64 (k : Int), Value.bool true, Value.bool true, Value.slice (some ⟨g0, 0, none⟩) i cp, Value.int IntKind.i64 (k : Int), Value.int IntKind.i64 (k' : Int), Value.pointer (some ⟨g0, k' * 3, none⟩), Value.pointer (some ⟨g0, k' * 3, none⟩), Value.int IntKind.i64 ud, Value.slice (some a) n c, Value.int IntKind.i64 (i : Int), Value.pointer (some (a.add (i * 3))), Value.pointer (some (a.add (i * 3))), Value.int IntKind.i64 vd, Value.bool (decide (vd < ud)), Value.bool (decide (vd < ud)), u42, u43, x44, x45, x46, x47, x48, x49, x50, x51, x52, x53, x54, x55, x56, x57, x58, undef, undef, undef, undef, undef, undef, undef, undef, undef, undef, undef, undef, undef, undef, undef, undef, undef, undef, undef, undef, undef, undef], defers := [] } ∧ Below wi.heap.size wi W ∧
                  (Fl9 0 = true → Fl9 4 = false → ∃ g, x44 = .slice (some ⟨g, 0, none⟩) 0 0 ∧ W.ownsRow wi.heap.size 54 3 (.slice (some ⟨g, 0, none⟩) 0 0) 0 []) ∧
                  (Fl9 1 = true → x45 = .slice (some ⟨g0, 0, none⟩) i cp) ∧
                  (Fl9 2 = true → x46 = .int .i64 (k : Int)) ∧
                  (Fl9 3 = true → x47 = .slice (some ⟨g0, 0, none⟩) k cp) ∧
                  (Fl9 4 = true → Fl9 10 = false → ∃ g c9, x48 = .slice (some ⟨g, 0, none⟩) k c9 ∧ W.ownsRow wi.heap.size 54 3 (.slice (some ⟨g, 0, none⟩) k c9) k (flatCargo (M.take k))) ∧
                  (Fl9 5 = true → x49 = .slice (some a) n c) ∧
                  (Fl9 6 = true → x50 = .int .i64 (i : Int)) ∧
                  (Fl9 7 = true → x51 = .pointer (some (a.add (i * 3)))) ∧
                  (Fl9 8 = true → x52 = .agg #[.int .i64 vd, .int .i64 vl, .int .i64 vq]) ∧
                  (Fl9 9 = true → Fl9 10 = false → ∃ g, x53 = .slice (some ⟨g, 0, none⟩) 1 1 ∧ ∀ j u, [Value.int .i64 vd, Value.int .i64 vl, Value.int .i64 vq][j]? = some u → W.cell? ((⟨g, 0, none⟩ : Addr).add j) = some u) ∧
                  (Fl9 10 = true → Fl9 14 = false → ∃ g c9, x54 = .slice (some ⟨g, 0, none⟩) (k + 1) c9 ∧ W.ownsRow wi.heap.size 54 3 (.slice (some ⟨g, 0, none⟩) (k + 1) c9) (k + 1) (flatCargo (M.take k) ++ [Value.int .i64 vd, Value.int .i64 vl, Value.int .i64 vq])) ∧
                  (Fl9 11 = true → x55 = .slice (some ⟨g0, 0, none⟩) i cp) ∧
                  (Fl9 12 = true → x56 = .int .i64 (k : Int)) ∧
                  (Fl9 13 = true → x57 = .slice (some aq) (i - k) (cp - k)) ∧
                  (Fl9 14 = true → ∃ g c9, x58 = .slice (some ⟨g, 0, none⟩) (i + 1) c9 ∧ W.ownsRow wi.heap.size 54 3 (.slice (some ⟨g, 0, none⟩) (i + 1) c9) (i + 1) (flatCargo (M.take k) ++ [Value.int .i64 vd, Value.int .i64 vl, Value.int .i64 vq] ++ flatCargo (M.drop k))) ∧
                  (Fl9 15 = true → ∃ g c9, x6 = .slice (some ⟨g, 0, none⟩) (i + 1) c9 ∧ W.ownsRow wi.heap.size 54 3 (.slice (some ⟨g, 0, none⟩) (i + 1) c9) (i + 1) (flatCargo (M.take k) ++ [Value.int .i64 vd, Value.int .i64 vl, Value.int .i64 vq] ++ flatCargo (M.drop k))) ∧
                  (Fl9 15 = true → Fl9 1 = true ∧ Fl9 11 = true) ∧
                  (Fl9 15 = false → x6 = .slice (some ⟨g0, 0, none⟩) i cp) ∧
                  (Fl9 10 = true → Fl9 4 = true) ∧
                  (Fl9 14 = true → Fl9 10 = true) ∧
                  (Fl9 15 = true → Fl9 14 = true)) ?_ ?_ ?_
            · exact ⟨_, _, _, _, _, _, _, _, _, _, _, _, _, _, _, _, rfl, (Drawn.one wi 1).below _, (fun q0 => nomatch q0), (fun q0 => nomatch q0), (fun q0 => nomatch q0), (fun q0 => nomatch q0), (fun q0 => nomatch q0), (fun q0 => nomatch q0), (fun q0 => nomatch q0), (fun q0 => nomatch q0), (fun q0 => nomatch q0), (fun q0 => nomatch q0), (fun q0 => nomatch q0), (fun q0 => nomatch q0), (fun q0 => nomatch q0), (fun q0 => nomatch q0), (fun q0 => nomatch q0), (fun q0 => nomatch q0), (fun q0 => nomatch q0), (fun _ => rfl), (fun q0 => nomatch q0), (fun q0 => nomatch q0), (fun q0 => nomatch q0)⟩
            · intro Fl9 ac W i9 o9 hJ ho hL hdep K9 hK
              obtain ⟨x44, x45, x46, x47, x48, x49, x50, x51, x52, x53, x54, x55, x56, x57, x58, x6, rfl, hB, hh0, hh1, hh2, hh3, hh4, hh5, hh6, hh7, hh8, hh9, hh10, hh11, hh12, hh13, hh14, hh15, hx0, hx1, hx2, hx3, hx4⟩ := hJ
              have hi9 : i9 < 16 := by simpa using (Array.getElem?_eq_some_iff.1 ho).1
              have C0 := (hB.cell lV).trans f0
              have C1 := (hB.cell (p := ⟨(a.add (i * 3)).block, (a.add (i * 3)).off + 1, none⟩) lV).trans f1
              have C2 := (hB.cell (p := ⟨(a.add (i * 3)).block, (a.add (i * 3)).off + 2, none⟩) lV).trans f2
              obtain rfl | rfl | rfl | rfl | rfl | rfl | rfl | rfl | rfl | rfl | rfl | rfl | rfl | rfl | rfl | rfl : i9 = 0 ∨ i9 = 1 ∨ i9 = 2 ∨ i9 = 3 ∨ i9 = 4 ∨ i9 = 5 ∨ i9 = 6 ∨ i9 = 7 ∨ i9 = 8 ∨ i9 = 9 ∨ i9 = 10 ∨ i9 = 11 ∨ i9 = 12 ∨ i9 = 13 ∨ i9 = 14 ∨ i9 = 15 := by omega
              · -- operation 0
                cases ho
                go_simp
                exact hK _ _ ⟨_, _, _, _, _, _, _, _, _, _, _, _, _, _, _, _, rfl, hB.trans ((Below.alloc (Below.refl W.heap.size W) (Nat.le_refl _) _).mono hB.size), fun _ _ => ⟨_, rfl, own_low (World.ownsRow_made W #[] 0 (Nat.le_refl _) (by unfold maxLen; omega) rfl) hB.size⟩, hh1, hh2, hh3, fun q0 r0 => (fun ⟨g, c9, e, o⟩ => ⟨g, c9, e, own_below o (Below.alloc (Below.refl W.heap.size W) (Nat.le_refl _) _)⟩) (hh4 q0 r0), hh5, hh6, hh7, hh8, fun q0 r0 => (fun ⟨g, e, h⟩ => ⟨g, e, fun j u hu => (Below.cell (Below.alloc (Below.refl W.heap.size W) (Nat.le_refl _) _) (World.block_lt_of_cell? W _ (h j u hu))).trans (h j u hu)⟩) (hh9 q0 r0), fun q0 r0 => (fun ⟨g, c9, e, o⟩ => ⟨g, c9, e, own_below o (Below.alloc (Below.refl W.heap.size W) (Nat.le_refl _) _)⟩) (hh10 q0 r0), hh11, hh12, hh13, fun q0 => (fun ⟨g, c9, e, o⟩ => ⟨g, c9, e, own_below o (Below.alloc (Below.refl W.heap.size W) (Nat.le_refl _) _)⟩) (hh14 q0), fun q0 => (fun ⟨g, c9, e, o⟩ => ⟨g, c9, e, own_below o (Below.alloc (Below.refl W.heap.size W) (Nat.le_refl _) _)⟩) (hh15 q0), hx0, hx1, hx2, hx3, hx4⟩
              · -- operation 1
                cases ho
                have hx9 : Fl9 15 = false := by
                  cases hc9 : Fl9 15 with
                  | false => rfl
                  | true => exact absurd (hx0 hc9).1 (by rw [hL]; simp)
                obtain rfl := hx1 hx9
                go_simp
                exact hK _ _ ⟨_, _, _, _, _, _, _, _, _, _, _, _, _, _, _, _, rfl, hB, hh0, fun _ => rfl, hh2, hh3, hh4, hh5, hh6, hh7, hh8, hh9, hh10, hh11, hh12, hh13, hh14, hh15, fun q0 => ⟨rfl, (hx0 q0).2⟩, hx1, hx2, hx3, hx4⟩
              · -- operation 2
                cases ho
                go_simp
                exact hK _ _ ⟨_, _, _, _, _, _, _, _, _, _, _, _, _, _, _, _, rfl, hB, hh0, hh1, fun _ => rfl, hh3, hh4, hh5, hh6, hh7, hh8, hh9, hh10, hh11, hh12, hh13, hh14, hh15, hx0, hx1, hx2, hx3, hx4⟩
              · -- operation 3
                cases ho
                obtain rfl := hh1 (hdep ⟨1, .data⟩ (by simp) rfl)
                obtain rfl := hh2 (hdep ⟨2, .data⟩ (by simp) rfl)
                go_simp
                exact hK _ _ ⟨_, _, _, _, _, _, _, _, _, _, _, _, _, _, _, _, rfl, hB, hh0, hh1, hh2, fun _ => rfl, hh4, hh5, hh6, hh7, hh8, hh9, hh10, hh11, hh12, hh13, hh14, hh15, hx0, hx1, hx2, hx3, hx4⟩
              · -- operation 4
                cases ho
                have hd0 := hdep ⟨0, .data⟩ (by simp) rfl
                obtain ⟨g9, rfl, oe⟩ := hh0 hd0 hL
                obtain rfl := hh3 (hdep ⟨3, .data⟩ (by simp) rfl)
                refine step_append rfl (.tmp 44) (.tmp 47) 42 rfl wi.heap.size 54 i0 (.agg #[.int .i64 0, .int .i64 0, .int .i64 0]) 3 24 Try.underlying42 hi hz0 hz1 hz2 rfl (by decide) _ 0 _ rfl oe ⟨g0, 0, none⟩ k cp (flatCargo (M.take k)) rfl HT1.out (HN1.out W hB) (flatCargo_one _) (by unfold maxLen; omega) (by omega) hB.size (fun e => nomatch e) ?_
                intro g1 cap w9 hown hgr
                rw [Nat.zero_add, List.nil_append] at hown
                rw [Nat.zero_add]
                have keep10 : (∃ g, x53 = .slice (some ⟨g, 0, none⟩) 1 1 ∧ ∀ j u, [Value.int .i64 vd, Value.int .i64 vl, Value.int .i64 vq][j]? = some u → W.cell? ((⟨g, 0, none⟩ : Addr).add j) = some u) → ∃ g, x53 = .slice (some ⟨g, 0, none⟩) 1 1 ∧ ∀ j u, [Value.int .i64 vd, Value.int .i64 vl, Value.int .i64 vq][j]? = some u → w9.cell? ((⟨g, 0, none⟩ : Addr).add j) = some u := fun ⟨gq, e, h⟩ => ⟨gq, e, keep_empty oe hgr h⟩
                exact hK _ _ ⟨_, _, _, _, _, _, _, _, _, _, _, _, _, _, _, _, rfl, hB.grown hgr hB.size (fun q e => (oe.lt q e).1), (fun _ q0 => nomatch q0), hh1, hh2, hh3, fun _ => fun _ => ⟨_, _, rfl, hown⟩, hh5, hh6, hh7, hh8, (fun q0 r0 => keep10 (hh9 q0 r0)), (fun q0 => absurd (hx2 q0) (by rw [hL]; simp)), hh11, hh12, hh13, (fun q0 => absurd (hx2 (hx3 q0)) (by rw [hL]; simp)), (fun q0 => absurd (hx2 (hx3 (hx4 q0))) (by rw [hL]; simp)), hx0, hx1, fun _ => rfl, hx3, hx4⟩
              · -- operation 5
                cases ho
                go_simp
                exact hK _ _ ⟨_, _, _, _, _, _, _, _, _, _, _, _, _, _, _, _, rfl, hB, hh0, hh1, hh2, hh3, hh4, fun _ => rfl, hh6, hh7, hh8, hh9, hh10, hh11, hh12, hh13, hh14, hh15, hx0, hx1, hx2, hx3, hx4⟩
              · -- operation 6
                cases ho
                go_simp
                exact hK _ _ ⟨_, _, _, _, _, _, _, _, _, _, _, _, _, _, _, _, rfl, hB, hh0, hh1, hh2, hh3, hh4, hh5, fun _ => rfl, hh7, hh8, hh9, hh10, hh11, hh12, hh13, hh14, hh15, hx0, hx1, hx2, hx3, hx4⟩
              · -- operation 7
                cases ho
                obtain rfl := hh5 (hdep ⟨5, .data⟩ (by simp) rfl)
                obtain rfl := hh6 (hdep ⟨6, .data⟩ (by simp) rfl)
                go_simp
                exact hK _ _ ⟨_, _, _, _, _, _, _, _, _, _, _, _, _, _, _, _, rfl, hB, hh0, hh1, hh2, hh3, hh4, hh5, hh6, fun _ => rfl, hh8, hh9, hh10, hh11, hh12, hh13, hh14, hh15, hx0, hx1, hx2, hx3, hx4⟩
              · -- operation 8
                cases ho
                obtain rfl := hh7 (hdep ⟨7, .data⟩ (by simp) rfl)
                go_simp
                exact hK _ _ ⟨_, _, _, _, _, _, _, _, _, _, _, _, _, _, _, _, rfl, hB, hh0, hh1, hh2, hh3, hh4, hh5, hh6, hh7, fun _ => rfl, hh9, hh10, hh11, hh12, hh13, hh14, hh15, hx0, hx1, hx2, hx3, hx4⟩
              · -- operation 9
                cases ho
                obtain rfl := hh8 (hdep ⟨8, .data⟩ (by simp) rfl)
                go_simp
                exact hK _ _ ⟨_, _, _, _, _, _, _, _, _, _, _, _, _, _, _, _, rfl, hB.trans ((Below.alloc (Below.refl W.heap.size W) (Nat.le_refl _) _).mono hB.size), fun q0 r0 => (fun ⟨g, e, o⟩ => ⟨g, e, own_below o (Below.alloc (Below.refl W.heap.size W) (Nat.le_refl _) _)⟩) (hh0 q0 r0), hh1, hh2, hh3, fun q0 r0 => (fun ⟨g, c9, e, o⟩ => ⟨g, c9, e, own_below o (Below.alloc (Below.refl W.heap.size W) (Nat.le_refl _) _)⟩) (hh4 q0 r0), hh5, hh6, hh7, hh8, fun _ _ => ⟨_, rfl, cell_three_new W _ _ _ _⟩, fun q0 r0 => (fun ⟨g, c9, e, o⟩ => ⟨g, c9, e, own_below o (Below.alloc (Below.refl W.heap.size W) (Nat.le_refl _) _)⟩) (hh10 q0 r0), hh11, hh12, hh13, fun q0 => (fun ⟨g, c9, e, o⟩ => ⟨g, c9, e, own_below o (Below.alloc (Below.refl W.heap.size W) (Nat.le_refl _) _)⟩) (hh14 q0), fun q0 => (fun ⟨g, c9, e, o⟩ => ⟨g, c9, e, own_below o (Below.alloc (Below.refl W.heap.size W) (Nat.le_refl _) _)⟩) (hh15 q0), hx0, hx1, hx2, hx3, hx4⟩
              · -- operation 10
                cases ho
                have hd4 := hdep ⟨4, .data⟩ (by simp) rfl
                obtain ⟨g9, c9, rfl, oe⟩ := hh4 hd4 hL
                have hd9 := hdep ⟨9, .data⟩ (by simp) rfl
                obtain ⟨gn, rfl, hnew⟩ := hh9 hd9 hL
                refine step_append rfl (.tmp 48) (.tmp 53) 42 rfl wi.heap.size 54 i0 (.agg #[.int .i64 0, .int .i64 0, .int .i64 0]) 3 24 Try.underlying42 hi hz0 hz1 hz2 rfl (by decide) _ k _ rfl oe ⟨gn, 0, none⟩ 1 1 [Value.int .i64 vd, Value.int .i64 vl, Value.int .i64 vq] rfl rfl hnew (by simp [Value.oneCell']) (by unfold maxLen; omega) (by omega) hB.size (fun e => nomatch e) ?_
                intro g1 cap w9 hown hgr
                exact hK _ _ ⟨_, _, _, _, _, _, _, _, _, _, _, _, _, _, _, _, rfl, hB.grown hgr hB.size (fun q e => (oe.lt q e).1), (fun _ q0 => absurd ((show Fl9 4 = false from q0).symm.trans hd4) (by simp)), hh1, hh2, hh3, (fun _ q0 => nomatch q0), hh5, hh6, hh7, hh8, (fun _ q0 => nomatch q0), fun _ => fun _ => ⟨_, _, rfl, hown⟩, hh11, hh12, hh13, (fun q0 => absurd (hx3 q0) (by rw [hL]; simp)), (fun q0 => absurd (hx3 (hx4 q0)) (by rw [hL]; simp)), hx0, hx1, fun _ => hd4, fun _ => rfl, hx4⟩
              · -- operation 11
                cases ho
                have hx9 : Fl9 15 = false := by
                  cases hc9 : Fl9 15 with
                  | false => rfl
                  | true => exact absurd (hx0 hc9).2 (by rw [hL]; simp)
                obtain rfl := hx1 hx9
                go_simp
                exact hK _ _ ⟨_, _, _, _, _, _, _, _, _, _, _, _, _, _, _, _, rfl, hB, hh0, hh1, hh2, hh3, hh4, hh5, hh6, hh7, hh8, hh9, hh10, fun _ => rfl, hh12, hh13, hh14, hh15, fun q0 => ⟨(hx0 q0).1, rfl⟩, hx1, hx2, hx3, hx4⟩
              · -- operation 12
                cases ho
                go_simp
                exact hK _ _ ⟨_, _, _, _, _, _, _, _, _, _, _, _, _, _, _, _, rfl, hB, hh0, hh1, hh2, hh3, hh4, hh5, hh6, hh7, hh8, hh9, hh10, hh11, fun _ => rfl, hh13, hh14, hh15, hx0, hx1, hx2, hx3, hx4⟩
              · -- operation 13
                cases ho
                obtain rfl := hh11 (hdep ⟨11, .data⟩ (by simp) rfl)
                obtain rfl := hh12 (hdep ⟨12, .data⟩ (by simp) rfl)
                go_simp
                exact hK _ _ ⟨_, _, _, _, _, _, _, _, _, _, _, _, _, _, _, _, rfl, hB, hh0, hh1, hh2, hh3, hh4, hh5, hh6, hh7, hh8, hh9, hh10, hh11, hh12, fun _ => (by rw [HAQ.out]), hh14, hh15, hx0, hx1, hx2, hx3, hx4⟩
              · -- operation 14
                cases ho
                have hd10 := hdep ⟨10, .data⟩ (by simp) rfl
                obtain ⟨g9, c9, rfl, oe⟩ := hh10 hd10 hL
                obtain rfl := hh13 (hdep ⟨13, .data⟩ (by simp) rfl)
                refine step_append rfl (.tmp 54) (.tmp 57) 42 rfl wi.heap.size 54 i0 (.agg #[.int .i64 0, .int .i64 0, .int .i64 0]) 3 24 Try.underlying42 hi hz0 hz1 hz2 rfl (by decide) _ (k + 1) _ rfl oe aq (i - k) (cp - k) (flatCargo (M.drop k)) rfl HT2.out (HN2.out W hB) (flatCargo_one _) (by unfold maxLen; omega) (by omega) hB.size (fun e => nomatch e) ?_
                intro g1 cap w9 hown hgr
                rw [hki] at hown ⊢
                exact hK _ _ ⟨_, _, _, _, _, _, _, _, _, _, _, _, _, _, _, _, rfl, hB.grown hgr hB.size (fun q e => (oe.lt q e).1), (fun _ q0 => absurd ((show Fl9 4 = false from q0).symm.trans (hx2 hd10)) (by simp)), hh1, hh2, hh3, (fun _ q0 => absurd ((show Fl9 10 = false from q0).symm.trans hd10) (by simp)), hh5, hh6, hh7, hh8, (fun _ q0 => absurd ((show Fl9 10 = false from q0).symm.trans hd10) (by simp)), (fun _ q0 => nomatch q0), hh11, hh12, hh13, fun _ => ⟨_, _, rfl, hown⟩, (fun q0 => absurd (hx4 q0) (by rw [hL]; simp)), hx0, hx1, hx2, fun _ => hd10, fun _ => rfl⟩
              · -- operation 15
                cases ho
                have hd14 := hdep ⟨14, .data⟩ (by simp) rfl
                obtain ⟨g9, c9, rfl, ho9⟩ := hh14 hd14
                go_simp
                exact hK _ _ ⟨_, _, _, _, _, _, _, _, _, _, _, _, _, _, _, _, rfl, hB, hh0, hh1, hh2, hh3, hh4, hh5, hh6, hh7, hh8, hh9, hh10, hh11, hh12, hh13, hh14, fun _ => ⟨_, _, rfl, ho9⟩, fun _ => ⟨hdep ⟨1, .phase⟩ (by simp) rfl, hdep ⟨11, .phase⟩ (by simp) rfl⟩, (fun q0 => nomatch q0), hx2, hx3, fun _ => hd14⟩
            intro Fl9 ac W hJ hall
            obtain ⟨x44, x45, x46, x47, x48, x49, x50, x51, x52, x53, x54, x55, x56, x57, x58, x6, rfl, hB, hh0, hh1, hh2, hh3, hh4, hh5, hh6, hh7, hh8, hh9, hh10, hh11, hh12, hh13, hh14, hh15, -, -, -, -, -⟩ := hJ
            obtain rfl := hh1 (hall 1 (by decide))
            obtain rfl := hh2 (hall 2 (by decide))
            obtain rfl := hh3 (hall 3 (by decide))
            obtain rfl := hh5 (hall 5 (by decide))
            obtain rfl := hh6 (hall 6 (by decide))
            obtain rfl := hh7 (hall 7 (by decide))
            obtain rfl := hh8 (hall 8 (by decide))
            obtain rfl := hh11 (hall 11 (by decide))
            obtain rfl := hh12 (hall 12 (by decide))
            obtain rfl := hh13 (hall 13 (by decide))
            clear hh0
            clear hh4
            clear hh9
            clear hh10
            clear hh14
            obtain ⟨gf, cf, rfl, hof⟩ := hh15 (hall 15 (by decide))
            clear hall
            have HBE := Lib.hid hB
            have HOF := Lib.hid hof
            have HZe := Lib.hid (HZi.out.below hB)
            have hwi0 := HZi.out.low.size
            clear hof hB HN1 HN2 HT1 HT2 f0 f1 f2 lV hlv HZi
            go_wp2_with fail
            go_roundw
            case rel => exact ⟨i + 1, by omega, by go_num, gf, cf, _, rfl, HPERM.out, HORD.out, by rw [HXS.out]; exact own_low HOF.out hwi0, HZe.out⟩
            case measure => simp [intOf]; omega
    · obtain rfl : i = n := by omega
      have HAsc : Hid (Asc vs M) := Lib.hid ⟨by have := HM1.out; rwa [List.take_of_length_le (by rw [HI.out.len]; exact Nat.le_refl _)] at this, HM2.out⟩
      obtain ⟨hLe, hze⟩ := HS.out M HAsc.out
      rw [hMi] at hLe hze
      have HLE := Lib.hid hLe
      have HZE := Lib.hid hze
      have HGS := Lib.hid ((goodCs_iff M).1 (goodCs_perm HGG.out HAsc.out.1)).2.1
      have CB := Lib.hid (best_any i [] M (wo.alloc (.cells #[] 54)) ⟨wo.heap.size, 0, none⟩ ⟨g0, 0, none⟩ 0 0 i cp wo.heap.size hMi rfl
        (World.ownsRow_made wo #[] 0 (Nat.le_refl _) (by unfold maxLen; omega) rfl) (below1 wo _).size (own_Cargos (own_below HOW.out (below1 wo _))) (by omega) (own_capC HOW.out) (fun v hv => HGS.out v (by simpa using hv)))
      obtain ⟨BL, hBL⟩ : ∃ x, bst i [] M = x := ⟨_, rfl⟩
      rw [hBL] at CB HLE HZE
      have HZ2 := Lib.hid (HZo.out.below (below1 wo (.cells #[] 54)))
      have hnl : ¬ (i : Int) < (i : Int) := by omega
      clear hLe hze HS HAsc HGS hMi hBL HZo HOW HM1 HM2 HML HPW HGG HI hlt
      go_wp2_with fail
      refine CB.out.mono ?_
      rintro e w3 ⟨gx, cx, q, rfl, hX, hb⟩
      have HZ3 := Lib.hid (HZ2.out.below hb)
      have HX3 := Lib.hid (own_low hX (Nat.zero_le _))
      have hql : BL.1.length = q := (own_isC hX).len
      have HQL := Lib.hid hql
      have hq6 : q ≤ 6 := by have := HM.out; rw [HLE.out, List.length_map, hql] at this; omega
      clear hb hX CB HZ2 hql
      go_wp2_with fail
      go_loopw [5, 11] (fun v j wr => ∃ k : Nat, k ≤ q ∧ j = .int .i64 k ∧ OwnZ w wr ((BL.1.take k).map (·.x0)) k v ∧ wr.ownsRow 0 54 3 (.slice (some gx) q cx) q (flatCargo BL.1)) (fun _ j _ => q - (intOf j).toNat)
      case atStart => exact ⟨0, Nat.zero_le _, rfl, HZ3.out, HX3.out⟩
      case round =>
        clear HZ3 HX3
        obtain ⟨k, hk, rfl, ⟨g5, c5, rfl, hg5, hown, hbw⟩, hX⟩ := hrel
        by_cases hlt : k < q
        · obtain ⟨a1, ea, -, HV⟩ := (own_isC hX).has.Cargo (k := k) (by rw [HQL.out]; exact hlt)
          injection ea with ea
          subst ea
          have v0 := HV.c0
          have HTK : Hid ((BL.1.take (k + 1)).map (·.x0) = (BL.1.take k).map (·.x0) ++ [(BL.1.getD k noCargo).x0]) := Lib.hid (by
            have hk9 : k < BL.1.length := by rw [HQL.out]; exact hlt
            rw [List.take_add_one, List.getElem?_eq_getElem hk9, getCargo hk9, List.map_append]
            rfl)
          generalize (BL.1.getD k noCargo).x0 = u at v0 HTK
          have HX := Lib.hid hX
          have hk0 : (0 : Int) ≤ (k : Int) := by omega
          have hk1 : (k : Int) < (q : Int) := by omega
          have hlq := World.block_lt_of_cell? _ _ v0
          clear HV hX
          go_wp2_with (at_builtin; refine wpList_append_own _ rfl (.tmp 71) (.tmp 77) 25 rfl w.heap.size 3 j0 (.int .i64 0) 1 8 Try.underlying25 hj hy0 hy1 hy2 rfl (by decide) (.slice (some ⟨g5, 0, none⟩) (k) c5) (k) _ rfl (hown.alloc (.cells #[.int .i64 u] 3)) ⟨wr.heap.size, 0, none⟩ 1 1 [.int .i64 u] rfl rfl (cell_one_new _ _ _) (by simp [Value.oneCell']) (by unfold maxLen; omega) (by omega) (by have := (hbw).size; simp; omega) ?_; intro v1 w1 hown1 hgrow1 hnil1; obtain ⟨g1, c1, rfl, hg1⟩ := own_some hown1 (fun e => nomatch (hnil1.1 e).1); have hb1 := ((hbw).alloc (hbw).size (.cells #[.int .i64 u] 3)).grown hgrow1 (by have := (hbw).size; simp; omega) (fun q hq => by cases hq; assumption); have HX1 := Lib.hid ((HX.out.alloc (.cells #[.int .i64 u] 3)).kept hgrow1 (own_ne (HX.out.alloc (.cells #[.int .i64 u] 3)) (hown.alloc (.cells #[.int .i64 u] 3)) (by decide))); clear hnil1 hgrow1 hown v0)
          go_roundw
          case rel => exact ⟨k + 1, by omega, by go_num, ⟨g1, c1, rfl, hg1, by rw [HTK.out, List.map_append]; exact hown1, hb1⟩, HX1.out⟩
          case measure => simp [intOf]; omega
        · obtain rfl : k = q := by omega
          have hLk : BL.1.take k = BL.1 := List.take_of_length_le (by rw [HQL.out]; exact Nat.le_refl _)
          have hLm : L = (BL.1.take k).map (·.x0) := by rw [hLk]; exact HLE.out
          obtain rfl : k = m := by rw [← HM.out, HLE.out, List.length_map]; exact HQL.out.symm
          have hze := HZE.out
          have hO : OwnZ w wr L k (.slice (some ⟨g5, 0, none⟩) k c5) := ⟨g5, c5, rfl, hg5, by rw [hLm]; exact hown, hbw⟩
          have HO := Lib.hid hO
          subst hze
          clear hLk hLm hO hown hbw hX
          go_wp2_with fail
          go_ret3
          exact HO.out.gives3 _ true
end Go.Proofs.Ytgnopkemcgbedab
