/- Chapter 10: what has to be refilled: the program. -/
import Derived.Test.YtliebicnejbheaaWaJ
namespace Go.Proofs.Ytliebicnejbheaa
open Go.RowKit Go.PlainAid Go.Sort
set_option linter.unusedVariables false
set_option linter.unusedSimpArgs false
attribute [local go_sem] ite_mx7 ite_mx

set_option maxRecDepth 100000 in
set_option maxHeartbeats 4000000 in
theorem refI_any {w : World} {B B2 : Nat} {A A2 : Option Addr} {n m : Nat} {vs : List TBasin} {fs : List TFlow} (c c2 : Nat) (h : IsBasins w B A n vs) (hm : n ≤ 1048576) (h2 : IsFlows w B2 A2 m fs) (hm2 : m ≤ 1048576)
    (L : List Int) (x : Bool) (hA : RefA vs fs L x) (q : Nat) (hl : L.length = q) :
    Calls Try.prog 38 #[.slice A n c, .slice A2 m c2] w (GivesZ w L q x) := by
  have C := Lib.hid (canTry_any c c2 h (Nat.le_trans hm (by unfold maxLen; omega)) h2 (Nat.le_trans hm2 (by unfold maxLen; omega)))
  have HI := Lib.hid h
  have HJ := Lib.hid h2
  have HNO := Lib.hid hA.2
  have HYES := Lib.hid hA.1
  have HM := Lib.hid hl
  obtain ⟨G, hG⟩ : ∃ G, gT vs fs = G := ⟨_, rfl⟩
  rw [hG] at HNO HYES C
  have HGE := Lib.hid hG
  clear h h2 hA hG hl
  go_enter Try.func38, Try.ntmps38
  go_wp2_with fail
  refine C.out.mono ?_
  rintro e w1 ⟨rfl, hb⟩
  have HB1 := Lib.hid hb
  clear hb C
  cases G with
  | false =>
    obtain ⟨rfl, rfl⟩ := HNO.out rfl
    obtain rfl : 0 = q := HM.out
    clear HNO HYES HGE
    go_wp2_with fail
    refine bodyPost_ret (results_tmp2 rfl _ _ _) rfl ?_
    exact givesZ_nil HB1.out false
  | true =>
  obtain ⟨hL, rfl⟩ := HYES.out rfl
  have hcan := (gT_iff vs fs).1 HGE.out
  have hn6 : n ≤ 6 := by rw [← HI.out.len]; exact hcan.1.1.2
  have hn1 : 0 < n := by rw [← HI.out.len]; exact hcan.1.1.1
  have hm12 : m ≤ 12 := by rw [← HJ.out.len]; exact hcan.2.1
  obtain ⟨a, rfl⟩ := some_of HI.out hn1
  obtain rfl : n = q := by rw [← HM.out, hL, needs_len, HI.out.len]
  rw [HJ.out.len] at hL
  have HL := Lib.hid hL
  have HF := Lib.hid (fun k (hk : k < m) => show goodF vs.length (fs.getD k noFlow) from hcan.2.2 k (by rw [HJ.out.len]; exact hk))
  have HLM := Lib.hid (fun k => (moves_len vs fs k).trans HI.out.len)
  have HBD := Lib.hid (fun k (hk : k ≤ m) => (moves_bd hcan k (by rw [HJ.out.len]; exact hk)).le (by omega : k ≤ 12))
  have HND := Lib.hid (fun i (hi : i < n) t (ht : t ≤ m) => need_bd hcan (i := i) (by rw [HI.out.len]; exact hi) t (by rw [HJ.out.len]; exact ht))
  have HN0 : Hid (needs vs fs 0 = List.replicate n 0) := Lib.hid (by rw [← HI.out.len]; exact needs_zero vs fs)
  have HNZ := Lib.hid (fun t => needK_zero vs fs t)
  have HNA : Hid (∀ t, needK vs fs t n = needs vs fs (t + 1)) := Lib.hid (fun t => by rw [← HI.out.len]; exact needK_all vs fs t)
  have HNS := Lib.hid (fun t k (hk : k < n) => needK_set (vs := vs) (fs := fs) (t := t) (k := k) (by rw [HI.out.len]; exact hk))
  have HNT := Lib.hid (fun t k (hk : k < n) => needK_at (vs := vs) (fs := fs) (t := t) (k := k) (by rw [HI.out.len]; exact hk))
  clear HNO HYES HM HGE hL hcan
  obtain ⟨j0, hj, hy0, hy1, hy2⟩ := info_parts Try.infoInt'
  go_wp2_with (at_make; refine wpList_make_full _ rfl _ _ 47 rfl w1.heap.size 3 j0 (.int .i64 0) 1 Try.underlying47 hj hy0 hy1 _ _ _ _ n rfl rfl rfl rfl ?b2 ?b3 (Nat.le_refl _) ?_)
  case b2 => rw [hy2]; omega
  case b3 => unfold maxLen; omega
  intro w0 hown0 hgrow0
  have hbm : Below w1.heap.size w1 w0 := (Below.refl _ _).grown hgrow0 (Nat.le_refl _) (fun k h => by cases h)
  have HB0 := Lib.hid (HB1.out.trans (hbm.mono HB1.out.size))
  rw [toList_madeCells_one, ← List.map_replicate (f := Value.int .i64), ← HN0.out] at hown0
  have HNEED := Lib.hid (own_low hown0 HB1.out.size)
  have hgn : w.heap.size ≤ w1.heap.size := HB1.out.size
  generalize w1.heap.size = gn at HNEED hgn ⊢
  clear hown0 hgrow0 hbm HB1
  have CC := Lib.hid (cloneB_any c (HI.out.below HB0.out HI.out.low) (by omega))
  go_wp2_with fail
  refine CC.out.mono ?_
  rintro e w2 ⟨v, rfl, hO⟩
  have HNEED2 := Lib.hid (own_below HNEED.out hO.low)
  obtain ⟨g, cg, rfl, hg1, hg2, hg3⟩ := hO.base HB0.out
  have hgg : w.heap.size ≤ g := hg1
  have HOW := Lib.hid hg2
  have HB2 := Lib.hid hg3
  have HGG : Hid (some gn ≠ some g) := Lib.hid (by
    rcases own_ne HNEED2.out hg2 (by decide) with h | h
    · simp [Value.ownBlock] at h
    · simpa [Value.ownBlock] using h)
  have CP := Lib.hid (fun W base (us : List TBasin) (ho : World.ownsRow W base 53 3 (.slice (some ⟨g, 0, none⟩) n cg) n (flatBasin us)) f0 f1 f2 hf hbd => pour_any ho hn6 f0 f1 f2 hf hbd)
  have CA := Lib.hid (fun d l b W h1 h2 h3 => aboveLeast_any d l b W h1 h2 h3)
  clear hO hg2 hg3 CC HB0 HNEED
  go_wp2_with fail
  go_loopw [24] (fun i wr => ∃ t : Nat, t ≤ m ∧ i = .int .i64 t ∧ Hid (wr.ownsRow w.heap.size 53 3 (.slice (some ⟨g, 0, none⟩) n cg) n (flatBasin (moves vs fs t))) ∧ Hid (wr.ownsRow w.heap.size 3 1 (.slice (some ⟨gn, 0, none⟩) n n) n ((needs vs fs t).map (.int .i64))) ∧ Hid (Below w.heap.size w wr)) (fun i _ => m - (intOf i).toNat)
  case atStart => exact ⟨0, Nat.zero_le _, rfl, HOW, HNEED2, HB2⟩
  case round =>
    clear HOW HNEED2 HB2
    obtain ⟨t, ht, rfl, HOW, HNEED, HB⟩ := hrel
    by_cases hlt : t < m
    · obtain ⟨a2, ea2, -, HV⟩ := (HJ.out.below HB.out HJ.out.low).has.Flow (k := t) (by rw [HJ.out.len]; exact hlt)
      obtain rfl := ea2
      have hfk := HF.out t hlt
      rw [HI.out.len] at hfk
      have HMV : Hid (move (moves vs fs t) (fs.getD t noFlow) = moves vs fs (t + 1)) := Lib.hid rfl
      obtain ⟨V, hV⟩ : ∃ V, fs.getD t noFlow = V := ⟨_, rfl⟩
      rw [hV] at HV hfk HMV
      clear hV
      obtain ⟨f0, f1, f2⟩ := V
      obtain ⟨e0, e1, e2⟩ := HV
      dsimp only at e0 e1 e2
      have hk0 : (0 : Int) ≤ (t : Int) := by omega
      have hk1 : (t : Int) < (m : Int) := by omega
      have hb5 := below1 wr (.cells #[.int .i64 f0, .int .i64 f1, .int .i64 f2] 38)
      have HOW5 := Lib.hid (own_below HOW.out hb5)
      have HNE5 := Lib.hid (own_below HNEED.out hb5)
      have HB5 := Lib.hid (HB.out.trans (hb5.mono HB.out.size))
      have D := Lib.hid (CP.out _ _ _ HOW5.out f0 f1 f2 hfk (HBD.out t ht))
      rw [HMV.out] at D
      clear hb5 hfk HMV HOW HNEED HB
      go_wp2_with fail
      refine D.out.mono ?_
      rintro e w6 ⟨rfl, ho, hgr⟩
      have HNE6 := Lib.hid (HNE5.out.kept hgr (.inr (by simp [Value.ownBlock]; have := HGG.out; simpa using this)))
      have HB6 := Lib.hid (HB5.out.grown hgr HB5.out.size (fun q hq => by cases hq; exact hgg))
      have HOW6 := Lib.hid ho
      clear ho hgr D HOW5 HNE5 HB5
      have HT1 : t + 1 ≤ m := hlt
      rw [← HNZ.out] at HNE6
      go_wp2_with fail
      go_loopw [33] (fun i wr => ∃ k : Nat, k ≤ n ∧ i = .int .i64 k ∧ Hid (wr.ownsRow w.heap.size 3 1 (.slice (some ⟨gn, 0, none⟩) n n) n ((needK vs fs t k).map (.int .i64))) ∧ Hid (wr.ownsRow w.heap.size 53 3 (.slice (some ⟨g, 0, none⟩) n cg) n (flatBasin (moves vs fs (t + 1)))) ∧ Hid (Below w.heap.size w wr)) (fun i _ => n - (intOf i).toNat)
      case atStart => exact ⟨0, Nat.zero_le _, rfl, HNE6, HOW6, HB6⟩
      case round =>
        clear HNE6 HOW6 HB6 e0 e1 e2
        obtain ⟨k, hk, rfl, HNE, HOW, HB⟩ := hrel
        by_cases hlk : k < n
        · obtain ⟨b0, b1, b2⟩ := own_atB HOW.out hlk
          have hbk := HBD.out (t + 1) HT1 k (by rw [HLM.out]; exact hlk)
          have hnk := HND.out k hlk t ht
          have HAT := Lib.hid (HNT.out t k hlk)
          have HSTEP := Lib.hid (need_step vs fs k t)
          have HSET := Lib.hid (HNS.out t k hlk)
          generalize need vs fs k (t + 1) = nx at HSTEP HSET
          generalize need vs fs k t = nn at hnk HSTEP HAT
          generalize (moves vs fs (t + 1)).getD k noBasin = V at b0 b1 b2 hbk HSTEP
          obtain ⟨d, l, mo⟩ := V
          dsimp only at b0 b1 b2 hbk HSTEP
          have hj0 : (0 : Int) ≤ (k : Int) := by omega
          have hj1 : (k : Int) < (n : Int) := by omega
          have hng : gn ≠ g := fun e => HGG.out (by rw [e])
          have hnx : 0 ≤ nx ∧ nx ≤ 2000000 := by rw [HSTEP.out]; omega
          have HNX : Hid (nx = max nn (-(d - l))) := Lib.hid (by rw [HSTEP.out]; congr 1; omega)
          have hbd : -1300000 ≤ d - l ∧ d - l ≤ 1300000 := by omega
          have hwn : IntKind.i64.wrap (-(d - l)) = -(d - l) := by rw [IntKind.wrap_i64]; omega
          have HSETX : Hid ((needK vs fs t k).set k (max nn (-(d - l))) = needK vs fs t (k + 1)) := Lib.hid (by rw [← HNX.out, HSET.out])
          have CX := Lib.hid (fun W => CA.out d l mo W (by omega) (by omega) (by omega))
          go_wp2_with fail
          obtain ⟨W5, hW5⟩ : ∃ W, World.alloc wr (.cells #[.int .i64 d, .int .i64 l, .int .i64 mo] 53) = W := ⟨_, rfl⟩
          obtain ⟨xb, hxb⟩ : ∃ x, (wr : World).heap.size = x := ⟨_, rfl⟩
          have cxb0 : W5.cell? ⟨xb, 0, none⟩ = some (.int .i64 d) := by rw [← hW5, ← hxb, sNew]; rfl
          have cxb1 : W5.cell? ⟨xb, 1, none⟩ = some (.int .i64 l) := by rw [← hW5, ← hxb, sNew]; rfl
          have cxb2 : W5.cell? ⟨xb, 2, none⟩ = some (.int .i64 mo) := by rw [← hW5, ← hxb, sNew]; rfl
          have hwl : Below wr.heap.size wr W5 := by rw [← hW5]; exact below1 _ _
          have HNE7 := Lib.hid (own_below HNE.out hwl)
          have HOW7 := Lib.hid (own_below HOW.out hwl)
          have HB7 := Lib.hid (HB.out.trans (hwl.mono HB.out.size))
          have n0 := own_cellZ HNE7.out hlk
          have n1 := HNE7.out.frozenAt k
          rw [HAT.out] at n0
          rw [hW5, hxb]
          clear hW5 hxb hwl b0 b1 b2 HNE HOW HB HSTEP hbk
          go_region_with (go_at_call 70; refine (CX.out _).mono ?_; rintro e w9 ⟨rfl, hb9⟩; have n9 : w9.cell? ⟨gn, k, none⟩ = some (.int .i64 nn) := (hb9.cell (p := ⟨gn, k, none⟩) (World.block_lt_of_cell? W5 _ n0)).trans n0; have f9 : w9.frozen? ⟨gn, k, none⟩ = false := (own_below ((Drawn.one W5 1).own HNE7.out) hb9).frozenAt k; have HB9 := Lib.hid hb9; clear hb9)
          all_goals
            go_wp2_with fail
            have t0 := (own_storeZ (own_below ((Drawn.one W5 1).own HNE7.out) HB9.out) k (max nn (-(d - l)))).1
            rw [HSETX.out] at t0
            have hb8 : Below W5.heap.size W5 w9 := ((Drawn.one W5 1).below _).trans HB9.out
            go_roundw
            case rel => exact ⟨k + 1, by omega, by go_num, Lib.hid t0, Lib.hid (own_set (own_below HOW7.out hb8) gn k _ (by simp [Value.ownBlock]; omega)), Lib.hid ((HB7.out.trans (hb8.mono HB7.out.size)).setCell (p := ⟨gn, k, none⟩) hgn _)⟩
            case measure => simp [intOf]; omega
        · obtain rfl : k = n := by omega
          rw [HNA.out] at HNE
          clear HNT HNS HND HBD HF HLM CP CA
          go_wp2_with fail
          go_roundw
          case rel => exact ⟨t + 1, by omega, by go_num, HOW, HNE, HB⟩
          case measure => simp [intOf]; omega
    · obtain rfl : t = m := by omega
      have HE := Lib.hid HNEED.out
      rw [← HL.out] at HE
      clear HNT HNS HND HBD HF HLM HNEED CP CA
      go_wp2_with fail
      refine bodyPost_ret (results_tmp2 rfl _ _ _) rfl ?_
      exact ⟨gn, n, rfl, HE.out, HB.out⟩
end Go.Proofs.Ytliebicnejbheaa
