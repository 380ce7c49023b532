/- Chapter 3, the program: OrderVessels. -/
import Derived.Test.YteeljlpbijmhlabSrtOrd
namespace Go.Proofs.Yteeljlpbijmhlab
open Go.RowKit Go.PlainAid Go.Sort
set_option linter.unusedVariables false
set_option linter.unusedSimpArgs false

theorem ownL_gives {w w3 w' : World} {l : List Int} {v : Value} (h : OwnL w3 w' l v) (hb : Below w.heap.size w w3) (b : Bool) : GivesInts w l b (.returned (.tuple #[v, .bool b])) w' := by
  obtain ⟨g, c, rfl, hg, ho, hb3⟩ := h
  exact ⟨g, c, rfl, Nat.le_trans hb.size hg, own_low ho hb.size, hb.trans (hb3.mono hb.size)⟩
theorem take_ids (M : List Ves) (k : Nat) (h : k < M.length) : (M.take (k + 1)).map (·.id) = (M.take k).map (·.id) ++ [(M.getD k noVes).id] := by
  rw [List.take_add_one, List.getElem?_eq_getElem h, List.map_append, getV h]
  rfl
set_option maxRecDepth 100000 in
set_option maxHeartbeats 2000000 in
theorem implOrd_any {w : World} {B : Nat} {a : Addr} {n : Nat} {vs : List Ves} (c : Nat) (h : IsVs w B (some a) n vs) (hm : n ≤ maxLen) (hc : n ≤ c) (L : List Int) (x : Bool) (hO : Ordered vs L x) :
    Calls Try.prog 17 #[.slice (some a) n c] w (GivesInts w L x) := by
  obtain ⟨i0, hi, hz0, hz1, hz2⟩ := info_parts Try.infoInt'
  have C := Lib.hid (fun (W : World) (hb : Below w.heap.size w W) => isFleet_vs c (h.below hb h.low) hm hc)
  have CC := Lib.hid (fun (h8 : n ≤ 1000) (W : World) (hb : Below w.heap.size w W) => cloneV_any a n c w.heap.size vs W h.len h8 hb.size (h.all.below hb (Nat.le_refl _)).has)
  have HI := Lib.hid h
  have HNO := Lib.hid hO.2
  have HYES : Hid (gF vs = true → x = true ∧ (∀ M, InOrd vs M → L = M.map (·.id)) ∧ goodF vs) := Lib.hid (fun e => ⟨(hO.1 e).1, (hO.1 e).2, (gF_iff vs).1 e⟩)
  generalize gF vs = b1 at C HNO HYES
  unfold maxLen at hm
  clear hO h
  go_enter Try.func17, Try.ntmps17
  go_wp2_with fail
  refine (C.out _ (Below.refl _ _)).mono ?_
  rintro e w1 ⟨rfl, hb⟩
  have P1 := Lib.hid (OwnL.nil hb)
  have B1 := Lib.hid hb
  clear hb C
  cases b1 with
  | false =>
    obtain ⟨rfl, rfl⟩ := HNO.out rfl
    clear HNO HYES
    go_wp2_with fail
    refine bodyPost_ret (results_tmp2 rfl _ _ _) rfl ?_
    exact P1.out.gives false
  | true =>
  obtain ⟨rfl, hL, hg⟩ := HYES.out rfl
  have HB := Lib.hid (boundsF hg)
  have HLM := Lib.hid hL
  have hn8 : n ≤ 8 := by have := hg.1; rw [HI.out.len] at this; exact this
  clear HNO HYES hg hL P1
  go_wp2_with fail
  refine (CC.out (by omega) _ B1.out).mono ?_
  rintro e w2 ⟨g, c2, rfl, hc2, hgg, hown, hb⟩
  have B2 := Lib.hid (B1.out.trans (hb.mono B1.out.size))
  have hgw : w.heap.size ≤ g := Nat.le_trans B1.out.size hgg
  have CS := Lib.hid (sortV_any hown HI.out.len (by omega) HB.out)
  clear hb hown hgg CC B1
  go_wp2_with fail
  refine CS.out.mono ?_
  rintro e w3 ⟨rfl, M, hp, hs, hM, hb⟩
  have B3 := Lib.hid (B2.out.trans (hb.mono hgw))
  have HM := Lib.hid hM
  have hML : M.length = n := by rw [hp.length_eq]; exact HI.out.len
  have HL : Hid (L = M.map (·.id)) := Lib.hid (HLM.out M ⟨hp, hs⟩)
  have P3 := Lib.hid (OwnL.nil (Below.refl w3.heap.size w3))
  have hML' := Lib.hid hML
  clear hM hb hp hs CS B2 HLM HB HI
  generalize (⟨g, 0, none⟩ : Addr) = ag at HM ⊢
  go_wp2_with fail
  go_loopw [5, 19] (fun o i wr => ∃ k : Nat, k ≤ n ∧ i = .int .i64 k ∧ OwnL w3 wr ((M.take k).map (·.id)) o) (fun _ i _ => n - (intOf i).toNat)
  case atStart => exact ⟨0, Nat.zero_le _, rfl, P3.out⟩
  case round =>
    obtain ⟨k, hk, rfl, hP⟩ := hrel
    have hq := hP.low
    by_cases hlt : k < n
    · have hkl : k < M.length := by rw [hML'.out]; exact hlt
      obtain ⟨a1, ea1, hab, HV⟩ := (HM.out.below hq).ves hkl
      injection ea1 with ea1
      subst ea1
      have HS := Lib.hid (take_ids M k hkl)
      have hlen : ((M.take k).map (·.id)).length ≤ k := by simp; omega
      generalize M.getD k noVes = V at HV HS
      obtain ⟨i, s, l, b, d, q⟩ := V
      obtain ⟨e0, e1, e2, e3, e4, e5⟩ := HV
      dsimp only at e0 e1 e2 e3 e4 e5
      have hk0 : (0 : Int) ≤ (k : Int) := by omega
      have hk1 : (k : Int) < (n : Int) := by omega
      have HS' : Hid ((M.take (k + 1)).map (·.id) = (M.take k).map (·.id) ++ [i]) := HS
      generalize (M.take k).map (·.id) = P at hP HS' hlen
      obtain ⟨g0, cp, rfl, hg0, hown, hb⟩ := hP
      have hP8 : P.length ≤ 8 := by omega
      clear HS P3 B3 hq
      have hcell : ∀ j u, [Value.int .i64 i][j]? = some u → ((wr.alloc (.cells #[.int .i64 i, .string s, .int .i64 l, .int .i64 b, .int .i64 d, .int .i64 q] 38)).alloc (.cells #[.int .i64 i] 3)).cell? ((⟨wr.heap.size + 1, 0, none⟩ : Addr).add j) = some u := by
        have h := cell_one_new (wr.alloc (.cells #[.int .i64 i, .string s, .int .i64 l, .int .i64 b, .int .i64 d, .int .i64 q] 38)) (.int .i64 i) 3
        rwa [World.size_alloc] at h
      have HCELL := Lib.hid hcell
      clear hcell
      go_wp2_with (at_builtin; refine wpList_append_own _ rfl (.tmp 23) (.tmp 26) 30 rfl w3.heap.size 3 i0 (.int .i64 0) 1 8 Try.underlying30 hi hz0 hz1 hz2 rfl (by decide) (.slice (some ⟨g0, 0, none⟩) P.length cp) P.length _ rfl ((hown.alloc _).alloc _) ⟨wr.heap.size + 1, 0, none⟩ 1 1 [.int .i64 i] rfl rfl HCELL.out (by simp [Value.oneCell']) (by unfold maxLen; omega) (by omega) (by have := hb.size; simp; omega) ?_; intro v1 w1 hown1 hgrow1 hnil1; obtain ⟨g1, c1, rfl, hg1⟩ := own_some hown1 (fun e => nomatch (hnil1.1 e).1); have hb1 := ((hb.alloc hb.size (.cells #[.int .i64 i, .string s, .int .i64 l, .int .i64 b, .int .i64 d, .int .i64 q] 38)).alloc (by have := hb.size; simp; omega) (.cells #[.int .i64 i] 3)).grown hgrow1 (by have := hb.size; simp; omega) (fun q hq => by cases hq; assumption); clear hown hnil1 hgrow1 hb HCELL)
      go_roundw
      case rel => exact ⟨k + 1, by omega, by go_num, by rw [HS'.out]; exact ⟨g1, c1, by rw [List.length_append]; rfl, hg1, by rw [List.length_append, List.map_append]; exact hown1, hb1⟩⟩
      case measure => simp [intOf]; omega
    · obtain rfl : k = n := by omega
      rw [List.take_of_length_le (by rw [hML'.out]; exact Nat.le_refl _), ← HL.out] at hP
      have HP := Lib.hid (ownL_gives hP B3.out true)
      clear hP P3 hq
      go_wp2_with fail
      refine bodyPost_ret (results_tmp2 rfl _ _ _) rfl ?_
      exact HP.out
end Go.Proofs.Yteeljlpbijmhlab
