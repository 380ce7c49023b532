/- Joining: the reference model's function and the program's, each as contracts. -/
import Derived.Test.YtcbdifmnbolgpaaDoorMem
import Derived.Test.YtcbdifmnbolgpaaDoorJoinM
import Derived.Deep.LoopGhost
import Derived.Maps.AppendAt
namespace Go.Proofs.YtcbdifmnbolgpaaDoor
open Go.RowKit Go.PlainAid

set_option maxHeartbeats 400000 in
theorem stands_no (s : ByteArray) (v : Int) (w : World) (hm : s.size ≤ maxLen) (h : ¬ holdsB s v) :
    Calls Tryd.prog 33 #[.string s, .int .u8 v] w fun e w' => e = .returned (.bool false) ∧ w = w' := by
  unfold maxLen at hm
  have H := Lib.hid h
  clear h
  go_enter Tryd.func33, Tryd.ntmps33
  go_wp2
  go_loop [5] (fun i => ∃ k : Nat, k ≤ s.size ∧ i = .int .i64 k) (fun i => s.size - (intOf i).toNat)
  case atStart => exact ⟨0, Nat.zero_le _, rfl⟩
  case round =>
    obtain ⟨k, hk, rfl⟩ := hrel
    by_cases hlt : k < s.size
    · have hb := get_bt s
      have hne : (bt s k == v) = false := beq_eq_false_iff_ne.2 (fun e => H.out ⟨k, hlt, e⟩)
      go_wp2
      go_round
      case rel => exact ⟨k + 1, by omega, by go_num⟩
      case measure => simp [intOf]; omega
    · obtain rfl : k = s.size := by omega
      go_wp2
      go_ret
      exact ⟨rfl, rfl⟩

set_option maxHeartbeats 400000 in
theorem stands_yes (s : ByteArray) (v : Int) (w : World) (hm : s.size ≤ maxLen) (h : holdsB s v) :
    Calls Tryd.prog 33 #[.string s, .int .u8 v] w fun e w' => e = .returned (.bool true) ∧ w = w' := by
  unfold maxLen at hm
  have H := Lib.hid h
  clear h
  go_enter Tryd.func33, Tryd.ntmps33
  go_wp2
  go_loop [5] (fun i => ∃ k : Nat, k ≤ s.size ∧ i = .int .i64 k ∧ Hid (∀ j, j < k → bt s j ≠ v)) (fun i => s.size - (intOf i).toNat)
  case atStart => exact ⟨0, Nat.zero_le _, rfl, Lib.hid (fun j hj => absurd hj (by omega))⟩
  case round =>
    obtain ⟨k, hk, rfl, hno⟩ := hrel
    by_cases hlt : k < s.size
    · have hb := get_bt s
      by_cases he : bt s k = v
      · have hne : (bt s k == v) = true := beq_iff_eq.2 he
        clear he
        go_wp2
        go_ret
        exact ⟨rfl, rfl⟩
      · have hne : (bt s k == v) = false := beq_eq_false_iff_ne.2 he
        have hno' : Hid (∀ j, j < k + 1 → bt s j ≠ v) := Lib.hid (fun j hj => by
          by_cases hjk : j = k
          · subst hjk; exact he
          · exact hno.out j (by omega))
        clear he
        go_wp2
        go_round
        case rel => exact ⟨k + 1, by omega, by go_num, hno'⟩
        case measure => simp [intOf]; omega
    · exfalso
      obtain ⟨j, hj, he⟩ := H.out
      exact hno.out j (by omega) he



theorem own_back {P : Program} {w : World} {base : Nat} {e : TypeId} {g cap : Nat} {s : ByteArray} (src dst : TypeId) (hs : P.underlying src = some (.slice e)) (he : P.underlying e = some (.int .u8)) (hd : P.underlying dst = some .string)
    (h : w.ownsRow base e 1 (.slice (some ⟨g, 0, none⟩) s.size cap) s.size (Lib.strCells s)) :
    (convert src dst (.slice (some ⟨g, 0, none⟩) s.size cap)).run P w = .ok (.string s) w := by
  have hl : s.data.toList.length = s.size := by simp
  have := run_convert_bytes_back (P := P) w src dst e ⟨g, 0, none⟩ cap s.data.toList hs he hd (fun j hj => h.cells (g := g) rfl j _ (by simp only [Lib.strCells, List.getElem?_map, List.getElem?_eq_getElem hj, Option.map_some]))
  rw [hl, of_strCells] at this
  exact this
theorem Tryd.info5' : (Tryd.prog.info? 5).map (fun i => (i.zero, i.size, i.bytes)) = some (some (.int .u8 0), 1, 1) := by kernel_rfl

set_option maxRecDepth 100000 in
set_option maxHeartbeats 1000000 in
theorem implJoin_ok (A : Option Addr) (n c B : Nat) (ss : List ByteArray) (sep : ByteArray) (w : World) (hn : ss.length = n) (hm : n ≤ maxLen) (hB : B ≤ w.heap.size)
    (hg : goodJ sep ss) (h : Has w B A (ss.map .string)) :
    Calls Tryd.prog 32 #[.slice A n c, .string sep] w fun e w' => e = .returned (.tuple #[.string (catB sep ss), .bool true]) ∧ Below w.heap.size w w' := by
  unfold maxLen at hm
  obtain ⟨hs1, hne, hno, hle⟩ := hg
  obtain ⟨i0, hi, hz0, hz1, hz2⟩ := info_parts Tryd.info5'
  have hn0 : 0 < n := by
    cases ss with
    | nil => exact absurd rfl hne
    | cons a r => simp at hn; omega
  have hnb : ((n : Int) == 0) = false := by simp; omega
  have hsb : ((sep.size : Int) != 1) = false := by simp [hs1]
  have HSC := Lib.hid (strCells_one sep hs1)
  have hs2 : 0 < sep.size := by omega
  have hs3 : sep.size ≤ 1 := by omega
  clear hs1 hne
  have hbs := get_bt sep
  have HNO := Lib.hid hno
  clear hno
  have HLE : Hid (∀ k, k ≤ n → (catB sep (ss.take k)).size ≤ 4000) := Lib.hid (fun k hk => Nat.le_trans (catB_le sep ss (n - k) k (by omega)) hle)
  have HN := Lib.hid hn
  clear hn hle
  go_enter Tryd.func32, Tryd.ntmps32
  go_wp2
  go_step3
  go_wp2
  go_step3
  go_wp2
  go_loopg [6, 7, 17] n (fun g v t i wr => ∃ (k : Nat) (acc : ByteArray) (g0 c0 : Nat), k + g = n ∧ i = .int .i64 k ∧ t = .int .i64 k ∧ v = .slice (some ⟨g0, 0, none⟩) acc.size c0 ∧ w.heap.size ≤ g0 ∧ Hid (acc = catB sep (ss.take k)) ∧ acc.size ≤ 4000 ∧
    wr.ownsRow w.heap.size 5 1 (.slice (some ⟨g0, 0, none⟩) acc.size c0) acc.size (Lib.strCells acc) ∧ Below w.heap.size w wr)
  case atStart => exact ⟨0, ⟨#[]⟩, _, 0, by omega, rfl, rfl, rfl, Nat.le_refl _, Lib.hid rfl, by decide, World.ownsRow_made w #[] 0 (Nat.le_refl _) (by unfold maxLen; omega) rfl, (Below.refl _ _).alloc (Nat.le_refl _) _⟩
  case round =>
    obtain ⟨k, acc, g0, c0, hkg, rfl, rfl, rfl, hg0, hacc, hal, hown, hb⟩ := hrel
    cases gk with
    | succ g =>
      have hlt : k < n := by omega
      have hlt' : k < ss.length := by rw [HN.out]; omega
      obtain ⟨a1, rfl, hab, e1⟩ := ((h.below (hb.mono hB))).strAt (k := k) hlt'
      have hz := HLE.out (k + 1) (by omega)
      have hnn : ¬ holdsB ss[k] (bt sep 0) := HNO.out _ (List.getElem_mem _)
      have hk0 : (0 : Int) ≤ (k : Int) := by omega
      have hk1 : (k : Int) < (n : Int) := by omega
      by_cases hkz : k = 0
      · have HC : Hid (acc ++ ss[k] = catB sep (ss.take (k + 1))) := Lib.hid (by subst hkz; rw [hacc.out]; show ByteArray.empty ++ _ = _; rw [catB_zero sep ss hlt']; exact nil_app _)
        have hkp : ¬ (0 : Int) < (k : Int) := by omega
        rw [← HC.out] at hz
        rw [ByteArray.size_append] at hz
        generalize ss[k] = s at e1 HC hnn hz
        have HNN := Lib.hid hnn
        clear h hnn hlt' hkz
        go_wp2
        obtain ⟨wo, hwo⟩ : ∃ wo : World, wo = wr := ⟨_, rfl⟩
        rw [← hwo] at hown hb ⊢
        clear hwo
        go_loopg [36] s.size (fun g i wi => ∃ (j : Nat), j + g = s.size ∧ i = .int .i64 j ∧ Drawn wo wi)
        case atStart => exact ⟨0, by omega, rfl, Drawn.refl _⟩
        case round =>
          obtain ⟨j, hjg, rfl, hD⟩ := hrel
          cases gk with
          | succ gi =>
            have hlj : j < s.size := by omega
            have hb2 := get_bt s
            have hne : (bt s j == bt sep 0) = false := beq_eq_false_iff_ne.2 (fun e => HNN.out ⟨j, hlj, e⟩)
            go_wp2
            go_quiet (fail)
            go_wp2
            go_roundg gi
            case rel => exact ⟨j + 1, by omega, by go_num, hD.step _⟩
            case measure => omega
          | zero =>
            obtain rfl : j = s.size := by omega
            have hownD := hD.own hown
            have hbelD := hb.trans (hD.below _)
            clear hown hb
            go_wp2_with (at_builtin; refine Lib.wpList_append_own_string _ rfl (.tmp 46) (.tmp 47) 22 9 rfl w.heap.size 5 i0 Tryd.underlying22 Tryd.underlying9 hi hz0 hz1 hz2 (.slice (some ⟨g0, 0, none⟩) acc.size c0) acc.size _ rfl hownD s rfl (by unfold maxLen; omega) (by omega) hbelD.size ?_; intro v2 w2 hown2 hgrow2 hnil2)
            obtain ⟨g2, c2, rfl, hg2⟩ := own_some hown2 (fun e => nomatch (hnil2.1 e).1)
            have hsum : (acc ++ s).size = acc.size + s.size := by simp only [ByteArray.size_append]
            rw [← strCells_app] at hown2
            have HO2 : w2.ownsRow w.heap.size 5 1 (.slice (some ⟨g2, 0, none⟩) (acc ++ s).size c2) (acc ++ s).size (Lib.strCells (acc ++ s)) := by rw [hsum]; exact hown2
            have hb2 := hbelD.grown hgrow2 hbelD.size (fun q hq => by cases hq; assumption)
            have HSUM := Lib.hid hsum
            clear hown2 hnil2 hownD hbelD hgrow2 hsum
            go_wp2
            go_roundg g
            case rel => exact ⟨k + 1, acc ++ s, g2, c2, by omega, by go_num, by go_num, by rw [HSUM.out], hg2, HC, by rw [HSUM.out]; omega, HO2, hb2⟩
            case measure => omega
      · have HC : Hid (acc ++ sep ++ ss[k] = catB sep (ss.take (k + 1))) := Lib.hid (by rw [hacc.out, catB_succ sep ss k (by omega) hlt'])
        have hkp : (0 : Int) < (k : Int) := by omega
        rw [← HC.out] at hz
        rw [ByteArray.size_append, ByteArray.size_append] at hz
        generalize ss[k] = s at e1 HC hnn hz
        have HNN := Lib.hid hnn
        clear h hnn hlt' hkz
        go_wp2_with (at_builtin; refine wpList_append_own _ rfl (.tmp 23) (.tmp 26) 22 rfl w.heap.size 5 i0 (.int .u8 0) 1 1 Tryd.underlying22 hi hz0 hz1 hz2 rfl (by decide) (.slice (some ⟨g0, 0, none⟩) acc.size c0) acc.size _ rfl (hown.alloc _) ⟨wr.heap.size, 0, none⟩ 1 1 [.int .u8 (bt sep 0)] rfl rfl (cell_one_new _ _ _) (by simp [Value.oneCell']) (by unfold maxLen; omega) (by omega) (by have := hb.size; simp; omega) ?_; intro v1 w1 hown1 hgrow1 hnil1; obtain ⟨g1, c1, rfl, hg1⟩ := own_some hown1 (fun e => nomatch (hnil1.1 e).1); have hb1 := (hb.alloc hb.size (.cells #[.int .u8 (bt sep 0)] 5)).grown hgrow1 (by have := hb.size; simp; omega) (fun q hq => by cases hq; assumption); clear hown hnil1 hgrow1 hb)
        obtain ⟨wo, hwo⟩ : ∃ wo : World, wo = w1 := ⟨_, rfl⟩
        rw [← hwo] at hown1 hb1 ⊢
        clear hwo
        go_loopg [36] s.size (fun g i wi => ∃ (j : Nat), j + g = s.size ∧ i = .int .i64 j ∧ Drawn wo wi)
        case atStart => exact ⟨0, by omega, rfl, Drawn.refl _⟩
        case round =>
          obtain ⟨j, hjg, rfl, hD⟩ := hrel
          cases gk with
          | succ gi =>
            have hlj : j < s.size := by omega
            have hb2 := get_bt s
            have hne : (bt s j == bt sep 0) = false := beq_eq_false_iff_ne.2 (fun e => HNN.out ⟨j, hlj, e⟩)
            go_wp2
            go_quiet (fail)
            go_wp2
            go_roundg gi
            case rel => exact ⟨j + 1, by omega, by go_num, hD.step _⟩
            case measure => omega
          | zero =>
            obtain rfl : j = s.size := by omega
            have hownD := hD.own hown1
            have hbelD := hb1.trans (hD.below _)
            clear hown1 hb1
            go_wp2_with (at_builtin; refine Lib.wpList_append_own_string _ rfl (.tmp 46) (.tmp 47) 22 9 rfl w.heap.size 5 i0 Tryd.underlying22 Tryd.underlying9 hi hz0 hz1 hz2 (.slice (some ⟨g1, 0, none⟩) (acc.size + 1) c1) (acc.size + 1) _ rfl hownD s rfl (by unfold maxLen; omega) (by omega) hbelD.size ?_; intro v2 w2 hown2 hgrow2 hnil2)
            obtain ⟨g2, c2, rfl, hg2⟩ := own_some hown2 (fun e => nomatch (hnil2.1 e).1)
            have hsum : (acc ++ sep ++ s).size = acc.size + 1 + s.size := by simp only [ByteArray.size_append]; omega
            rw [← HSC.out, ← strCells_app, ← strCells_app] at hown2
            have HO2 : w2.ownsRow w.heap.size 5 1 (.slice (some ⟨g2, 0, none⟩) (acc ++ sep ++ s).size c2) (acc ++ sep ++ s).size (Lib.strCells (acc ++ sep ++ s)) := by rw [hsum]; exact hown2
            have hb2 := hbelD.grown hgrow2 hbelD.size (fun q hq => by cases hq; assumption)
            have HSUM := Lib.hid hsum
            clear hown2 hnil2 hownD hbelD hgrow2 hsum
            go_wp2
            go_roundg g
            case rel => exact ⟨k + 1, acc ++ sep ++ s, g2, c2, by omega, by go_num, by go_num, by rw [HSUM.out], hg2, HC, by rw [HSUM.out]; omega, HO2, hb2⟩
            case measure => omega
    | zero =>
      obtain rfl : k = n := by omega
      have HK : Hid (acc = catB sep ss) := Lib.hid (by rw [hacc.out, List.take_of_length_le (by rw [HN.out]; omega)])
      have hcv := own_back (P := Tryd.prog) 22 9 Tryd.underlying22 Tryd.underlying5 Tryd.underlying9 hown
      clear h hacc hown
      go_wp2
      try rw [Exit.noGoto_ret]
      go_ret2
      exact ⟨ret_strb HK.out, hb⟩

set_option maxRecDepth 100000 in
set_option maxHeartbeats 2000000 in
theorem implJoin_no (A : Option Addr) (n c B : Nat) (ss : List ByteArray) (sep : ByteArray) (w : World) (hn : ss.length = n) (hm : n ≤ maxLen) (hB : B ≤ w.heap.size) (hsm : sep.size ≤ 1048576) (hsz : ∀ s ∈ ss, s.size ≤ 1048576)
    (hg : ¬ goodJ sep ss) (h : Has w B A (ss.map .string)) :
    Calls Tryd.prog 32 #[.slice A n c, .string sep] w fun e w' => e = .returned (.tuple #[.string ⟨#[]⟩, .bool false]) ∧ Below w.heap.size w w' := by
  unfold maxLen at hm
  obtain ⟨i0, hi, hz0, hz1, hz2⟩ := info_parts Tryd.info5'
  by_cases hs1 : sep.size = 1
  case neg =>
    have hsb : ((sep.size : Int) != 1) = true := by rw [bne_iff_ne]; omega
    clear hs1 h hg hn hsz
    go_enter Tryd.func32, Tryd.ntmps32
    go_wp2
    go_step3
    go_wp2
    try rw [Exit.noGoto_ret]
    go_ret2
    exact ⟨rfl, Below.refl _ _⟩
  have hsb : ((sep.size : Int) != 1) = false := by simp [hs1]
  have HSC := Lib.hid (strCells_one sep hs1)
  have HS := Lib.hid hs1
  have hs2 : 0 < sep.size := by omega
  have hs3 : sep.size ≤ 1 := by omega
  clear hs1
  have hbs := get_bt sep
  have HG := Lib.hid hg
  have HZ := Lib.hid hsz
  have HN := Lib.hid hn
  clear hn hg hsz
  go_enter Tryd.func32, Tryd.ntmps32
  go_wp2
  go_step3
  go_wp2
  go_step3
  go_wp2
  go_loopg [6, 7, 17] n (fun g v t i wr => ∃ (k : Nat) (acc : ByteArray) (g0 c0 : Nat), k + g = n ∧ i = .int .i64 k ∧ t = .int .i64 k ∧ v = .slice (some ⟨g0, 0, none⟩) acc.size c0 ∧ w.heap.size ≤ g0 ∧ Hid (acc = catB sep (ss.take k)) ∧ acc.size ≤ 4000 ∧
    Hid (∀ j (hj : j < ss.length), j < k → ¬ holdsB ss[j] (bt sep 0)) ∧ wr.ownsRow w.heap.size 5 1 (.slice (some ⟨g0, 0, none⟩) acc.size c0) acc.size (Lib.strCells acc) ∧ Below w.heap.size w wr)
  case atStart => exact ⟨0, ⟨#[]⟩, _, 0, by omega, rfl, rfl, rfl, Nat.le_refl _, Lib.hid rfl, by decide, Lib.hid (fun j _ hj => absurd hj (by omega)), World.ownsRow_made w #[] 0 (Nat.le_refl _) (by unfold maxLen; omega) rfl, (Below.refl _ _).alloc (Nat.le_refl _) _⟩
  case round =>
    obtain ⟨k, acc, g0, c0, hkg, rfl, rfl, rfl, hg0, hacc, hal, hno, hown, hb⟩ := hrel
    cases gk with
    | succ g =>
      have hlt : k < n := by omega
      have hlt' : k < ss.length := by rw [HN.out]; omega
      obtain ⟨a1, rfl, hab, e1⟩ := ((h.below (hb.mono hB))).strAt (k := k) hlt'
      have hsk : ss[k].size ≤ 1048576 := HZ.out _ (List.getElem_mem _)
      have hk0 : (0 : Int) ≤ (k : Int) := by omega
      have hk1 : (k : Int) < (n : Int) := by omega
      have HNX : Hid (¬ holdsB ss[k] (bt sep 0) → Hid (∀ j (hj : j < ss.length), j < k + 1 → ¬ holdsB ss[j] (bt sep 0))) := Lib.hid (fun hh => Lib.hid (fun j hj hjk => by
          by_cases e : j = k
          · subst e; exact hh
          · exact hno.out j hj (by omega)))
      by_cases hkz : k = 0
      · have HC : Hid (acc ++ ss[k] = catB sep (ss.take (k + 1))) := Lib.hid (by subst hkz; rw [hacc.out]; show ByteArray.empty ++ _ = _; rw [catB_zero sep ss hlt']; exact nil_app _)
        have hkp : ¬ (0 : Int) < (k : Int) := by omega
        have hk2 : ((k : Int) == 0) = true := beq_iff_eq.2 (by omega)
        generalize ss[k] = s at e1 HC hsk HNX
        clear h hlt' hkz
        by_cases hbig : 4000 < acc.size + s.size
        · go_wp2
          try rw [Exit.noGoto_ret]
          go_ret2
          exact ⟨rfl, hb⟩
        · go_wp2
          obtain ⟨wo, hwo⟩ : ∃ wo : World, wo = wr := ⟨_, rfl⟩
          rw [← hwo] at hown hb ⊢
          clear hwo
          go_loopg [36] s.size (fun g i wi => ∃ (j : Nat), j + g = s.size ∧ i = .int .i64 j ∧ Hid (∀ j', j' < j → bt s j' ≠ bt sep 0) ∧ Drawn wo wi)
          case atStart => exact ⟨0, by omega, rfl, Lib.hid (fun j' hj => absurd hj (by omega)), Drawn.refl _⟩
          case round =>
            obtain ⟨j, hjg, rfl, hno2, hD⟩ := hrel
            cases gk with
            | succ gi =>
              have hlj : j < s.size := by omega
              have hb2 := get_bt s
              by_cases heq : bt s j = bt sep 0
              · have hne : (bt s j == bt sep 0) = true := beq_iff_eq.2 heq
                have hbelD := hb.trans (hD.below _)
                clear heq hown hb
                go_wp2
                go_quiet (fail)
                go_wp2
                try rw [Exit.noGoto_ret]
                go_ret2
                exact ⟨rfl, ⟨hbelD.os, hbelD.tape, hbelD.output, hbelD.size, hbelD.block⟩⟩
              · have hne : (bt s j == bt sep 0) = false := beq_eq_false_iff_ne.2 heq
                have hno3 : Hid (∀ j', j' < j + 1 → bt s j' ≠ bt sep 0) := Lib.hid (fun j' hj => by
                  by_cases e : j' = j
                  · subst e; exact heq
                  · exact hno2.out j' (by omega))
                clear heq
                go_wp2
                go_quiet (fail)
                go_wp2
                go_roundg gi
                case rel => exact ⟨j + 1, by omega, by go_num, hno3, hD.step _⟩
                case measure => omega
            | zero =>
              obtain rfl : j = s.size := by omega
              have hnh : ¬ holdsB s (bt sep 0) := fun ⟨j', hj', e⟩ => hno2.out j' hj' e
              have hno' := HNX.out hnh
              have HNO' := Lib.hid hno'
              have hownD := hD.own hown
              have hbelD := hb.trans (hD.below _)
              clear hown hb hnh hno'
              go_wp2_with (at_builtin; refine Lib.wpList_append_own_string _ rfl (.tmp 46) (.tmp 47) 22 9 rfl w.heap.size 5 i0 Tryd.underlying22 Tryd.underlying9 hi hz0 hz1 hz2 (.slice (some ⟨g0, 0, none⟩) acc.size c0) acc.size _ rfl hownD s rfl (by unfold maxLen; omega) (by omega) hbelD.size ?_; intro v2 w2 hown2 hgrow2 hnil2)
              obtain ⟨g2, c2, rfl, hg2⟩ := own_some hown2 (fun e => nomatch (hnil2.1 e).1)
              have hsum : (acc ++ s).size = acc.size + s.size := by simp only [ByteArray.size_append]
              rw [← strCells_app] at hown2
              have HO2 : w2.ownsRow w.heap.size 5 1 (.slice (some ⟨g2, 0, none⟩) (acc ++ s).size c2) (acc ++ s).size (Lib.strCells (acc ++ s)) := by rw [hsum]; exact hown2
              have hb2 := hbelD.grown hgrow2 hbelD.size (fun q hq => by cases hq; assumption)
              have HSUM := Lib.hid hsum
              clear hown2 hnil2 hownD hbelD hgrow2 hsum
              go_wp2
              go_roundg g
              case rel => exact ⟨k + 1, acc ++ s, g2, c2, by omega, by go_num, by go_num, by rw [HSUM.out], hg2, HC, by rw [HSUM.out]; omega, HNO'.out, HO2, hb2⟩
              case measure => omega
      · have HC : Hid (acc ++ sep ++ ss[k] = catB sep (ss.take (k + 1))) := Lib.hid (by rw [hacc.out, catB_succ sep ss k (by omega) hlt'])
        have hkp : (0 : Int) < (k : Int) := by omega
        have hk2 : ((k : Int) == 0) = false := beq_eq_false_iff_ne.2 (by omega)
        generalize ss[k] = s at e1 HC hsk HNX
        clear h hlt' hkz
        by_cases hbig : 4000 < acc.size + 1 + s.size
        · go_wp2_with (at_builtin; refine wpList_append_own _ rfl (.tmp 23) (.tmp 26) 22 rfl w.heap.size 5 i0 (.int .u8 0) 1 1 Tryd.underlying22 hi hz0 hz1 hz2 rfl (by decide) (.slice (some ⟨g0, 0, none⟩) acc.size c0) acc.size _ rfl (hown.alloc _) ⟨wr.heap.size, 0, none⟩ 1 1 [.int .u8 (bt sep 0)] rfl rfl (cell_one_new _ _ _) (by simp [Value.oneCell']) (by unfold maxLen; omega) (by omega) (by have := hb.size; simp; omega) ?_; intro v1 w1 hown1 hgrow1 hnil1; obtain ⟨g1, c1, rfl, hg1⟩ := own_some hown1 (fun e => nomatch (hnil1.1 e).1); have hb1 := (hb.alloc hb.size (.cells #[.int .u8 (bt sep 0)] 5)).grown hgrow1 (by have := hb.size; simp; omega) (fun q hq => by cases hq; assumption); clear hown hnil1 hgrow1 hb)
          try rw [Exit.noGoto_ret]
          go_ret2
          exact ⟨rfl, hb1⟩
        · go_wp2_with (at_builtin; refine wpList_append_own _ rfl (.tmp 23) (.tmp 26) 22 rfl w.heap.size 5 i0 (.int .u8 0) 1 1 Tryd.underlying22 hi hz0 hz1 hz2 rfl (by decide) (.slice (some ⟨g0, 0, none⟩) acc.size c0) acc.size _ rfl (hown.alloc _) ⟨wr.heap.size, 0, none⟩ 1 1 [.int .u8 (bt sep 0)] rfl rfl (cell_one_new _ _ _) (by simp [Value.oneCell']) (by unfold maxLen; omega) (by omega) (by have := hb.size; simp; omega) ?_; intro v1 w1 hown1 hgrow1 hnil1; obtain ⟨g1, c1, rfl, hg1⟩ := own_some hown1 (fun e => nomatch (hnil1.1 e).1); have hb1 := (hb.alloc hb.size (.cells #[.int .u8 (bt sep 0)] 5)).grown hgrow1 (by have := hb.size; simp; omega) (fun q hq => by cases hq; assumption); clear hown hnil1 hgrow1 hb)
          obtain ⟨wo, hwo⟩ : ∃ wo : World, wo = w1 := ⟨_, rfl⟩
          rw [← hwo] at hown1 hb1 ⊢
          clear hwo
          go_loopg [36] s.size (fun g i wi => ∃ (j : Nat), j + g = s.size ∧ i = .int .i64 j ∧ Hid (∀ j', j' < j → bt s j' ≠ bt sep 0) ∧ Drawn wo wi)
          case atStart => exact ⟨0, by omega, rfl, Lib.hid (fun j' hj => absurd hj (by omega)), Drawn.refl _⟩
          case round =>
            obtain ⟨j, hjg, rfl, hno2, hD⟩ := hrel
            cases gk with
            | succ gi =>
              have hlj : j < s.size := by omega
              have hb2 := get_bt s
              by_cases heq : bt s j = bt sep 0
              · have hne : (bt s j == bt sep 0) = true := beq_iff_eq.2 heq
                have hbelD := hb1.trans (hD.below _)
                clear heq hown1 hb1
                go_wp2
                go_quiet (fail)
                go_wp2
                try rw [Exit.noGoto_ret]
                go_ret2
                exact ⟨rfl, ⟨hbelD.os, hbelD.tape, hbelD.output, hbelD.size, hbelD.block⟩⟩
              · have hne : (bt s j == bt sep 0) = false := beq_eq_false_iff_ne.2 heq
                have hno3 : Hid (∀ j', j' < j + 1 → bt s j' ≠ bt sep 0) := Lib.hid (fun j' hj => by
                  by_cases e : j' = j
                  · subst e; exact heq
                  · exact hno2.out j' (by omega))
                clear heq
                go_wp2
                go_quiet (fail)
                go_wp2
                go_roundg gi
                case rel => exact ⟨j + 1, by omega, by go_num, hno3, hD.step _⟩
                case measure => omega
            | zero =>
              obtain rfl : j = s.size := by omega
              have hnh : ¬ holdsB s (bt sep 0) := fun ⟨j', hj', e⟩ => hno2.out j' hj' e
              have hno' := HNX.out hnh
              have HNO' := Lib.hid hno'
              have hownD := hD.own hown1
              have hbelD := hb1.trans (hD.below _)
              clear hown1 hb1 hnh hno'
              go_wp2_with (at_builtin; refine Lib.wpList_append_own_string _ rfl (.tmp 46) (.tmp 47) 22 9 rfl w.heap.size 5 i0 Tryd.underlying22 Tryd.underlying9 hi hz0 hz1 hz2 (.slice (some ⟨g1, 0, none⟩) (acc.size + 1) c1) (acc.size + 1) _ rfl hownD s rfl (by unfold maxLen; omega) (by omega) hbelD.size ?_; intro v2 w2 hown2 hgrow2 hnil2)
              obtain ⟨g2, c2, rfl, hg2⟩ := own_some hown2 (fun e => nomatch (hnil2.1 e).1)
              have hsum : (acc ++ sep ++ s).size = acc.size + 1 + s.size := by simp only [ByteArray.size_append]; omega
              rw [← HSC.out, ← strCells_app, ← strCells_app] at hown2
              have HO2 : w2.ownsRow w.heap.size 5 1 (.slice (some ⟨g2, 0, none⟩) (acc ++ sep ++ s).size c2) (acc ++ sep ++ s).size (Lib.strCells (acc ++ sep ++ s)) := by rw [hsum]; exact hown2
              have hb2 := hbelD.grown hgrow2 hbelD.size (fun q hq => by cases hq; assumption)
              have HSUM := Lib.hid hsum
              clear hown2 hnil2 hownD hbelD hgrow2 hsum
              go_wp2
              go_roundg g
              case rel => exact ⟨k + 1, acc ++ sep ++ s, g2, c2, by omega, by go_num, by go_num, by rw [HSUM.out], hg2, HC, by rw [HSUM.out]; omega, HNO'.out, HO2, hb2⟩
              case measure => omega
    | zero =>
      by_cases hn0 : n = 0
      · have hk2 : ((k : Int) == 0) = true := beq_iff_eq.2 (by omega)
        have hk3 : ¬ (k : Int) < (n : Int) := by omega
        clear h hown hn0
        go_wp2
        try rw [Exit.noGoto_ret]
        go_ret2
        exact ⟨rfl, hb⟩
      · exfalso
        obtain rfl : k = n := by omega
        refine HG.out ⟨HS.out, ?_, ?_, ?_⟩
        · intro e; have := HN.out; rw [e] at this; exact hn0 this.symm
        · intro s hs
          obtain ⟨j, hj, rfl⟩ := List.mem_iff_getElem.1 hs
          exact hno.out j hj (by rw [← HN.out]; exact hj)
        · have := hacc.out
          rw [List.take_of_length_le (by rw [HN.out]; omega)] at this
          rw [← this]; exact hal
end Go.Proofs.YtcbdifmnbolgpaaDoor
