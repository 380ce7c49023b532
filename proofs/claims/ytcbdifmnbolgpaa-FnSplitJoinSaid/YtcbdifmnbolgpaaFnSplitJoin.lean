/- What is proved: laws.FnSplitJoin, called with any bytes, returns true and leaves them as they were: for what the bytes draw, SplitString and JoinStrings are inverse, JoinStrings and LessString answer as the reference model's, and LessString is a strict order. No condition. -/
import Derived.Test.YtcbdifmnbolgpaaSJ
import Derived.Test.YtcbdifmnbolgpaaJoin
import Derived.Test.YtcbdifmnbolgpaaSplit2
import Derived.Test.YtcbdifmnbolgpaaMark
import Derived.OpenShut
import Derived.ShutString
import Derived.ChangeOld
import Derived.WalkLawsBesides
namespace Go.Proofs.Ytcbdifmnbolgpaa.fnSplitJoin
open Go.ChangeShapes Go.WideShapes Go.ChangeAt Go.RowKit
open Go.ChangeMaps (open_string shut_string)
set_option linter.unusedVariables false

set_option maxHeartbeats 400000 in
theorem big_no (a : Option Addr) (n c : Nat) (w : World) (h : n ≤ 65536) : Calls Try.prog 8 #[.slice a n c] w fun e w' => e = .returned (.bool false) ∧ w = w' := by
  have hd : decide ((65536 : Int) < (n : Int)) = false := by simp; omega
  go_enter Try.func8, Try.ntmps8
  go_wp2
  go_ret
  exact ⟨rfl, rfl⟩
set_option maxHeartbeats 400000 in
theorem big_yes (a : Option Addr) (n c : Nat) (w : World) (h : 65536 < n) (hm : n ≤ maxLen) : Calls Try.prog 8 #[.slice a n c] w fun e w' => e = .returned (.bool true) ∧ w = w' := by
  unfold maxLen at hm
  have hd : decide ((65536 : Int) < (n : Int)) = true := by simp; omega
  go_enter Try.func8, Try.ntmps8
  go_wp2
  go_ret
  exact ⟨rfl, rfl⟩
def lt (a b : ByteArray) : Bool := Op.bytesLess a.toList b.toList
theorem implLess (a b : ByteArray) (w : World) : Calls Try.prog 15 #[.string a, .string b] w fun e w' => e = .returned (.bool (lt a b)) ∧ w = w' := by
  go_enter Try.func15, Try.ntmps15
  go_wp2
  go_ret
  exact ⟨rfl, rfl⟩
theorem specLess (a b : ByteArray) (w : World) : Calls Try.prog 16 #[.string a, .string b] w fun e w' => e = .returned (.bool (lt a b)) ∧ w = w' := by
  go_enter Try.func16, Try.ntmps16
  go_wp2
  go_ret
  exact ⟨rfl, rfl⟩
theorem less_asymm : ∀ (a b : List UInt8), Op.bytesLess a b = true → Op.bytesLess b a = false
  | [], [], h => by simp [Op.bytesLess] at h
  | a :: x, [], h => by simp [Op.bytesLess] at h
  | [], b :: y, _ => by simp [Op.bytesLess]
  | a :: x, b :: y, h => by
    have ih := less_asymm x y
    simp only [Op.bytesLess, Bool.or_eq_true, decide_eq_true_eq, Bool.and_eq_true, beq_iff_eq, Bool.or_eq_false_iff, decide_eq_false_iff_not, Bool.and_eq_false_iff, beq_eq_false_iff_ne] at h ⊢
    rcases h with h | ⟨h1, h2⟩
    · exact ⟨fun h' => absurd (UInt8.lt_trans h h') (UInt8.lt_irrefl a), .inl (fun e => absurd (e ▸ h) (UInt8.lt_irrefl _))⟩
    · subst h1
      exact ⟨UInt8.lt_irrefl a, .inr (ih h2)⟩

/-- Both joining functions give one answer. -/
theorem join_two (ss : List ByteArray) (sep : ByteArray) (hl : ss.length ≤ 100000) (hz : ∀ s ∈ ss, s.size ≤ 1048576) (hs : sep.size ≤ 1048576) : ∃ (J : ByteArray) (jb : Bool),
    (goodJ sep ss → J = catB sep ss ∧ jb = true) ∧
    (∀ (A : Option Addr) (c B : Nat) (W : World), B ≤ W.heap.size → Has W B A (ss.map .string) → Calls Try.prog 12 #[.slice A ss.length c, .string sep] W fun e w' => e = .returned (.tuple #[.string J, .bool jb]) ∧ Below W.heap.size W w') ∧
    (∀ (A : Option Addr) (c B : Nat) (W : World), Has W B A (ss.map .string) → Calls Try.prog 13 #[.slice A ss.length c, .string sep] W fun e w' => e = .returned (.tuple #[.string J, .bool jb]) ∧ Drawn W w') := by
  by_cases hg : goodJ sep ss
  · exact ⟨catB sep ss, true, fun _ => ⟨rfl, rfl⟩, fun A c B W hB h => implJoin_ok A _ c B ss sep W rfl (by unfold maxLen; omega) hB hg h, fun A c B W h => specJoin_ok A _ c B ss sep W rfl (by unfold maxLen; omega) hg h⟩
  · exact ⟨⟨#[]⟩, false, fun h => absurd h hg, fun A c B W hB h => implJoin_no A _ c B ss sep W rfl (by unfold maxLen; omega) hB hs hz hg h, fun A c B W h => specJoin_no A _ c B ss sep W rfl (by unfold maxLen; omega) hs hz hg h⟩
theorem split_one (s sep : ByteArray) (hs : s.size ≤ 4000) (h2 : sep.size ≤ 4000) : ∃ (L : List ByteArray) (lb : Bool), (sep.size = 1 → L = parts s (PlainAid.bt sep 0) ∧ lb = true) ∧ (sep.size ≠ 1 → L = [] ∧ lb = false) ∧ L.length ≤ 4001 ∧
    ∀ W : World, Calls Try.prog 10 #[.string s, .string sep] W (GivesStrs W L lb) := by
  by_cases h1 : sep.size = 1
  · exact ⟨_, true, fun _ => ⟨rfl, rfl⟩, fun h => absurd h1 h, by have := parts_len s (PlainAid.bt sep 0); omega, fun W => implSplit_ok s sep W hs h1⟩
  · exact ⟨[], false, fun h => absurd h h1, fun _ => ⟨rfl, rfl⟩, by simp, fun W => implSplit_no s sep W (by unfold maxLen; omega) (by unfold maxLen; omega) (fun h => h1 h.2)⟩
theorem good_parts (s sep : ByteArray) (hs : s.size ≤ 4000) (h1 : sep.size = 1) : goodJ sep (parts s (PlainAid.bt sep 0)) :=
  ⟨h1, by intro e; have := parts_pos s (PlainAid.bt sep 0); rw [e] at this; simp at this, parts_clean s _, by rw [parts_join s sep h1]; exact hs⟩
theorem parts_size (s : ByteArray) (v : Int) (h : s.size ≤ 4000) : ∀ p ∈ parts s v, p.size ≤ 1048576 := by
  have key : ∀ k, k ≤ s.size → ∀ p ∈ (spl s v k).1, p.size ≤ s.size := by
    intro k
    induction k with
    | zero => intro _ p hp; simp [spl] at hp
    | succ k ih =>
      intro hk p hp
      by_cases h : PlainAid.bt s k = v
      · rw [spl_hit h] at hp
        rcases List.mem_append.1 hp with hp | hp
        · exact ih (by omega) p hp
        · have : p = s.extract (spl s v k).2 k := by simpa using hp
          rw [this, extract_size s _ _ (by omega)]; omega
      · rw [spl_miss h] at hp; exact ih (by omega) p hp
  intro p hp
  rcases List.mem_append.1 hp with hp | hp
  · have := key _ (Nat.le_refl _) p hp; omega
  · have : p = s.extract (spl s v s.size).2 s.size := by simpa using hp
    rw [this, extract_size s _ _ (Nat.le_refl _)]; omega

set_option maxRecDepth 100000 in
set_option maxHeartbeats 2000000 in
theorem walk (a : Option Addr) (n c : Nat) (zs : List Int) (w : World) (hi : IsInts .u8 w a n zs) :
    Calls Try.prog 3 #[.slice a n c] w fun e w' => e = .returned (.bool true) ∧ Below w.heap.size w w' := by
  by_cases hb : 65536 < n
  · have HB := Lib.hid (big_yes a n c w hb hi.2.1)
    clear hi hb
    go_enter Try.func3, Try.ntmps3
    go_wp2_with fail
    refine HB.out.mono ?_
    rintro e w1 ⟨rfl, rfl⟩
    go_wp2_with fail
    go_ret
    exact ⟨rfl, Below.refl _ _⟩
  have HK := Lib.hid (Code_.of hi (by omega))
  have HB := Lib.hid (big_no a n c w (by omega))
  clear hi hb
  go_enter Try.func3, Try.ntmps3
  go_wp2_with fail
  refine HB.out.mono ?_
  rintro e w1 ⟨rfl, rfl⟩
  clear HB
  go_wp2_with fail
  refine (drawSplit c HK.out).mono ?_
  rintro e w1 ⟨s, sep, hs, hsep, rfl, hb1⟩
  have HK1 := Lib.hid (HK.out.on hb1)
  obtain ⟨L, lb, hL1, hL2, hLl, cS⟩ := split_one s sep (by omega) (by omega)
  have HL1 := Lib.hid hL1
  have HL2 := Lib.hid hL2
  have HCS := Lib.hid cS
  clear hL1 hL2 cS
  go_wp2_with fail
  refine (HCS.out _).mono ?_
  rintro e w2 ⟨g2, c2, rfl, hg2, own2, hb2⟩
  have hz1 := hb1.size
  have lt2 := own2.lt g2 rfl
  have hbb2 := hb1.trans (hb2.mono hz1)
  have HK2 := Lib.hid (HK.out.on hbb2)
  clear hb1 hb2 HK1
  go_wp2_with fail
  refine (drawJoin c HK2.out).mono ?_
  rintro e w3 ⟨ss, sep3, g3, c3, hl3, hss, hsep3, rfl, own3, hb3⟩
  have hz2 := hbb2.size
  have own23 := own2.kept (grown_of_below hb3 none) (.inr (by simp [Value.ownBlock]))
  have hbb3 := hbb2.trans (hb3.mono hz2)
  have HK3 := Lib.hid (HK.out.on hbb3)
  obtain ⟨J, jb, -, cI, cP⟩ := join_two ss sep3 (by omega) (fun x hx => by have := hss x hx; omega) (by omega)
  have HI := Lib.hid cI
  have HP := Lib.hid cP
  clear own2 hb3 hbb2 HK2 hss cI cP
  go_wp2_with fail
  refine (HI.out _ _ _ _ (Nat.le_refl _) (Has.of_own own3)).mono ?_
  rintro e w4 ⟨rfl, hb4⟩
  have own34 := own3.kept (grown_of_below hb4 none) (.inr (by simp [Value.ownBlock]))
  have own24 := own23.kept (grown_of_below hb4 none) (.inr (by simp [Value.ownBlock]))
  have hbb4 := hbb3.trans (hb4.mono hbb3.size)
  clear own3 own23 hb4 hbb3 HK3
  go_wp2_with fail
  refine (HP.out _ _ _ _ (Has.of_own own34)).mono ?_
  rintro e w5 ⟨rfl, hD⟩
  have own25 := hD.own own24
  have hbb5 := hbb4.trans (hD.below _)
  have HK5 := Lib.hid (HK.out.on hbb5)
  clear own34 own24 hD hbb4
  go_wp2_with fail
  refine (drawLess c HK5.out).mono ?_
  rintro e w6 ⟨x, y, hx, hy, rfl, hb6⟩
  have own26 := own25.kept (grown_of_below hb6 none) (.inr (by simp [Value.ownBlock]))
  have hbb6 := hbb5.trans (hb6.mono hbb5.size)
  clear own25 hb6 hbb5 HK5
  have HX := Lib.hid (fun (W : World) => implLess x y W)
  have HY := Lib.hid (fun (W : World) => specLess x y W)
  have HZ := Lib.hid (fun (h : lt x y = true) (W : World) => by have h2 := implLess y x W; rw [show lt y x = false from less_asymm _ _ h] at h2; exact h2)
  have HF : Hid (sep.size = 1 → ∀ W, W.heap.size = W.heap.size → ∀ g c', Has W W.heap.size (some ⟨g, 0, none⟩) (L.map .string) → Calls Try.prog 12 #[.slice (some ⟨g, 0, none⟩) L.length c', .string sep] W fun e w' => e = .returned (.tuple #[.string s, .bool true]) ∧ Below W.heap.size W w') := Lib.hid (fun h1 W _ g c' hh => by
    obtain ⟨rfl, -⟩ := HL1.out h1
    have := implJoin_ok (some ⟨g, 0, none⟩) _ c' W.heap.size (parts s (PlainAid.bt sep 0)) sep W rfl (by unfold maxLen; omega) (Nat.le_refl _) (good_parts s sep (by omega) h1) hh
    rwa [parts_join s sep h1] at this)
  have hself : (s.toList == s.toList) = true := beq_self_eq_true _
  have hjself : (J.toList == J.toList) = true := beq_self_eq_true _
  by_cases hsb : sep.size = 1
  · have hsn : ((sep.size : Int) != 1) = false := by simp [hsb]
    have HF1 := Lib.hid (HF.out hsb)
    have hlb : lb = true := (HL1.out hsb).2
    clear HF HL1 HL2 hsb
    subst hlb
    obtain ⟨q, hq⟩ : ∃ q, lt x y = q := ⟨_, rfl⟩
    rw [hq] at HX HY HZ
    clear hq
    cases q
    all_goals
      go_wp2_with fail
      refine (HX.out _).mono ?_
      rintro e w7 ⟨rfl, rfl⟩
      go_wp2_with fail
      refine (HY.out _).mono ?_
      rintro e w7 ⟨rfl, rfl⟩
      go_wp2_with fail
      refine (HX.out _).mono ?_
      rintro e w7 ⟨rfl, rfl⟩
      go_wp2_with fail
    · refine (HF1.out _ (by trivial) _ _ (Has.of_own own26)).mono ?_
      rintro e w8 ⟨rfl, hb8⟩
      have hbb8 := hbb6.trans (hb8.mono hbb6.size)
      clear own26 hb8 hbb6
      go_wp2_with fail
      go_ret
      exact ⟨rfl, hbb8⟩
    · refine (HZ.out (by trivial) _).mono ?_
      rintro e w7 ⟨rfl, rfl⟩
      go_wp2_with fail
      refine (HF1.out _ (by trivial) _ _ (Has.of_own own26)).mono ?_
      rintro e w8 ⟨rfl, hb8⟩
      have hbb8 := hbb6.trans (hb8.mono hbb6.size)
      clear own26 hb8 hbb6
      go_wp2_with fail
      go_ret
      exact ⟨rfl, hbb8⟩
  · have hsn : ((sep.size : Int) != 1) = true := by rw [bne_iff_ne]; omega
    obtain ⟨hL, hlb⟩ := HL2.out hsb
    clear HF HL1 HL2 hsb HCS
    subst hlb hL
    obtain ⟨q, hq⟩ : ∃ q, lt x y = q := ⟨_, rfl⟩
    rw [hq] at HX HY HZ
    clear hq own26
    cases q
    all_goals
      go_wp2_with fail
      refine (HX.out _).mono ?_
      rintro e w7 ⟨rfl, rfl⟩
      go_wp2_with fail
      refine (HY.out _).mono ?_
      rintro e w7 ⟨rfl, rfl⟩
      go_wp2_with fail
      refine (HX.out _).mono ?_
      rintro e w7 ⟨rfl, rfl⟩
      go_wp2_with fail
    · go_ret
      exact ⟨rfl, hbb6⟩
    · refine (HZ.out (by trivial) _).mono ?_
      rintro e w7 ⟨rfl, rfl⟩
      go_wp2_with fail
      go_ret
      exact ⟨rfl, hbb6⟩
theorem own : ownKnob Try.prog.godebug = none := by kernel_rfl
theorem laidOut : laidOutB Try.prog = true := by kernel_rfl

set_option maxRecDepth 100000 in
theorem lifted (os : Os) (started : os.Started) (H : Type) (enc : TypeId × Value → H) :
    ReturnsInHanded {} Try.checked os 3 .any (Rows.fnSplitJoinSpec.pre6 enc Try.prog Try.f3 Rows.fnSplitJoinRow.domain false) (Rows.fnSplitJoinSpec.post enc Try.prog Try.f3 false true false false) := by
  refine returnsInHanded_of_change (C := Try.checked) own started (by kernel_rfl) Try.func3
    (ChangeSpec.witness6 (enc := enc) (C := Try.checked) false ⟨#[], #[.slice none 0 0], []⟩ 8 (by kernel_rfl) (by kernel_rfl) (by kernel_rfl) (by kernel_rfl)) ?_
  intro W base args ds gs before hval0 hW hcnd _
  have hval : ∀ (j : Nat) t v, Try.f3.params[j]? = some t → args[j]? = some v → Value.okWide Try.prog W .any base t v := hval0
  have hW' := hW
  obtain ⟨p, q, hA0, hV, rfl, hfz, hnd⟩ := hW
  have hA : DataW.TrodAll enc Try.prog W 0 (fun _ => true) true Try.f3.params.toList args.toList ds p := hA0
  rw [Try.params3] at hA hval
  obtain ⟨v0, vs0, d0, ds0, p0, q0, hargs, rfl, rfl, h0, r0⟩ := trodAll_cons hA
  obtain ⟨rfl, rfl, rfl⟩ := trodAll_nil r0
  obtain rfl : args = #[v0] := by cases args; simp_all
  obtain ⟨rfl, rfl⟩ := trodVars_none hV
  obtain ⟨a0, len0, cap0, rfl⟩ := okWide_slice Try.underlying22 (hval 0 22 v0 rfl rfl)
  have k0 := h0
  have lt0 : ∀ x ∈ p0, x.block < W.heap.size := by obtain ⟨m, hm⟩ := k0; exact DataW.trod_lt m _ _ _ hm
  obtain ⟨z0, w0⟩ : ∃ zs, IsInts .u8 W a0 len0 zs := by
    obtain ⟨fuel, hf⟩ := h0
    rcases open_ints Try.underlying22 Try.underlying5 (by kernel_rfl) hf with ⟨hcs, _⟩ | ⟨x, l, c, zs, hcs, _, hl, hm, hz, _, hcell, hwz⟩
    · simp [Value.cells] at hcs
      obtain ⟨rfl, rfl, rfl⟩ := hcs
      exact ⟨[], isInts_nil _ W⟩
    · simp [Value.cells] at hcs
      obtain ⟨rfl, rfl, rfl⟩ := hcs
      exact ⟨_, isInts_some hl hm (by simpa using hz) hcell hwz⟩
  clear hA0 hval0
  refine (walk a0 len0 cap0 z0 W w0).mono fun e W' ⟨he, bel⟩ => ?_
  subst he
  exact ⟨_, rfl, _, _, _, [], _, [], hW', trodAll_mk1 (shut_bool Try.underlying4 _), (trodAll_cons_mk (Below.trod laidOut (by kernel_rfl) (of_decide_eq_true (by kernel_rfl)) k0 bel lt0) trodAll_mk0), rfl, bel.frame _, fun h => by cases h⟩

theorem over : Rows.fnSplitJoinRow.holds Try.pinned (OpenSpec.ofChange Rows.fnSplitJoinSpec) :=
  OpenClaim.holds_of_wide 3 Try.f3 rfl rfl rfl rfl rfl rfl rfl ⟨rfl, rfl, rfl, rfl, rfl⟩ rfl rfl rfl rfl rfl (by kernel_rfl) Try.func3 (by kernel_rfl)
    (of_decide_eq_true (by kernel_rfl)) (by unfold Func.isWrapper; first | (rw [if_pos (by decide +kernel)]; kernel_rfl) | (rw [if_neg (by decide +kernel)]; exact ⟨rfl, rfl⟩))
    (fun os started H enc _ => lifted os started H enc)

/-- The statement. -/
theorem proved : Rows.FnSplitJoinSaid := over
end Go.Proofs.Ytcbdifmnbolgpaa.fnSplitJoin
