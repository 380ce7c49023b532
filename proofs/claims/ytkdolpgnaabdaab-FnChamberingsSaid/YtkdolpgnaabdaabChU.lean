/- Chapter 4: FewestLockages of the model. -/
import Derived.Test.YtkdolpgnaabdaabChT
namespace Go.Proofs.Ytkdolpgnaabdaab
open Go.RowKit Go.PlainAid Go.Sort
set_option linter.unusedVariables false
set_option linter.unusedSimpArgs false

theorem chosenN_has {hs : List THull} {p k : Nat} (hp : p.testBit k = true) : ∀ n, k < n → hs.getD k noHull ∈ chosenN hs p n
  | 0, h => absurd h (by omega)
  | n + 1, h => by
    rw [chosenN]
    rcases Nat.lt_succ_iff_lt_or_eq.1 h with g | g
    · have := chosenN_has (hs := hs) hp n g
      split
      · exact List.mem_append_left _ this
      · exact this
    · subst g
      rw [if_pos hp]
      simp
theorem chosenN_pow {hs : List THull} {k : Nat} : ∀ n, chosenN hs (2 ^ k) n = if k < n then [hs.getD k noHull] else []
  | 0 => by rw [if_neg (by omega)]; rfl
  | n + 1 => by
    rw [chosenN, chosenN_pow n, Nat.testBit_two_pow]
    by_cases h : k = n
    · subst h
      rw [if_pos (by simp), if_neg (by omega), if_pos (by omega)]
      rfl
    · rw [if_neg (by simp [h])]
      by_cases g : k < n
      · rw [if_pos g, if_pos (by omega)]
      · rw [if_neg g, if_neg (by omega)]
theorem sub_bit : ∀ s, s < 16 → ∀ p, p < 16 → ∀ k, k < 4 → (p &&& s = p ∧ s.testBit k = true ∧ p.testBit k = false → (s - p).testBit k = true) := by decide +kernel
theorem low_bit : ∀ s, s < 16 → 0 < s → ∃ k, k < 4 ∧ (2 ^ k &&& s = 2 ^ k) := by
  intro s hs h0
  have key : ∀ s, s < 16 → 0 < s → (1 &&& s = 1 ∨ 2 &&& s = 2 ∨ 4 &&& s = 4 ∨ 8 &&& s = 8) := by decide +kernel
  rcases key s hs h0 with h | h | h | h
  · exact ⟨0, by omega, h⟩
  · exact ⟨1, by omega, h⟩
  · exact ⟨2, by omega, h⟩
  · exact ⟨3, by omega, h⟩
/-- Whether a group fits. -/
def fitG (c : TChamber) (hs : List THull) (p : Nat) : Bool := fits c (chosen hs p)
theorem grp_single {f : Nat → Bool} {s m : Nat} (h : Grp f s m) : s < 16 → ∀ k, k < 4 → s.testBit k = true → ∃ p, p.testBit k = true ∧ f p = true := by
  induction h with
  | zero => intro _ k _ hk; simp at hk
  | step s p m h1 h2 h3 _ ih =>
    intro hs k hk hb
    cases g : p.testBit k with
    | true => exact ⟨p, g, h3⟩
    | false =>
      have := part_le h2
      exact ih (by omega) k hk (sub_bit s hs p (by omega) k hk ⟨h2, hb, g⟩)
theorem grp_all {c : TChamber} {hs : List THull} (hl : hs.length ≤ 4) (h : ∀ k, k < hs.length → fits c [hs.getD k noHull] = true) : ∀ s, s < 2 ^ hs.length → ∃ m, Grp (fitG c hs) s m := by
  intro s
  induction s using Nat.strongRecOn with
  | _ s ih =>
    intro hs'
    have h16 : (2 : Nat) ^ hs.length ≤ 2 ^ 4 := Nat.pow_le_pow_right (by omega) hl
    rcases Nat.eq_zero_or_pos s with h0 | h0
    · subst h0; exact ⟨0, .zero⟩
    · obtain ⟨k, hk, hb⟩ := low_bit s (by omega) h0
      have hp := part_le hb
      have hpos : 0 < 2 ^ k := Nat.two_pow_pos k
      have hkl : k < hs.length := by
        rcases Nat.lt_or_ge k hs.length with g | g
        · exact g
        · have := Nat.pow_le_pow_right (n := 2) (by omega) g; omega
      obtain ⟨m, hm⟩ := ih (s - 2 ^ k) (by omega) (by omega)
      refine ⟨m + 1, .step s (2 ^ k) m hpos hb ?_ hm⟩
      unfold fitG
      rw [show chosen hs (2 ^ k) = [hs.getD k noHull] by rw [show chosen hs (2 ^ k) = chosenN hs (2 ^ k) hs.length from rfl, chosenN_pow, if_pos hkl]]
      exact h k hkl
theorem all_bit : ∀ n, n < 5 → ∀ k, k < n → (2 ^ n - 1).testBit k = true := by decide +kernel
theorem single_of {c : TChamber} {hs : List THull} (hl : hs.length ≤ 4) {m : Nat} (h : Grp (fitG c hs) (2 ^ hs.length - 1) m) : ∀ k, k < hs.length → fits c [hs.getD k noHull] = true := by
  intro k hk
  have h16 : (2 : Nat) ^ hs.length ≤ 2 ^ 4 := Nat.pow_le_pow_right (by omega) hl
  obtain ⟨p, hp, hf⟩ := grp_single h (by omega) k (by omega) (all_bit hs.length (by omega) k hk)
  exact fits_one hf (chosenN_has hp _ hk)
/-- The number that tells how many groups. -/
def encO : Option Nat → Int
  | none => -1
  | some m => (m : Int)
theorem grp_le {f : Nat → Bool} {s n m : Nat} (h : Grp f s m) (hn : n ≤ 4) (hs : s < 2 ^ n) : m ≤ n := by
  have h2 : 2 ^ n ≤ 2 ^ 4 := Nat.pow_le_pow_right (by omega) hn
  exact Nat.le_trans (div_pc h (by omega)) (pc_le hn hs)
/-- What FewestLockages answers. -/
structure FewA (c : TChamber) (hs : List THull) (x : Int) (y : Bool) : Prop where
  bad : (decide (goodC c) && gHs hs) = false → x = 0 ∧ y = false
  yes : ∀ o, goodC c → goodHs hs → FewR (fitG c hs) (2 ^ hs.length - 1) o → (o = none → x = 0 ∧ y = false) ∧ (∀ m, o = some m → x = (m : Int) ∧ y = true)
theorem fewA_ex (c : TChamber) (hs : List THull) : ∃ x y, FewA c hs x y := by
  by_cases h : (decide (goodC c) && gHs hs) = false
  · exact ⟨0, false, fun _ => ⟨rfl, rfl⟩, fun o h1 h2 => by rw [decide_eq_true h1, gHs_yes h2] at h; cases h⟩
  · obtain ⟨o, ho⟩ := fewR_ex (fitG c hs) (2 ^ hs.length - 1)
    cases o with
    | none => exact ⟨0, false, fun g => absurd g h, fun o' _ _ h' => by rw [h'.uniq ho]; exact ⟨fun _ => ⟨rfl, rfl⟩, fun _ g => by cases g⟩⟩
    | some m => exact ⟨(m : Int), true, fun g => absurd g h, fun o' _ _ h' => by rw [h'.uniq ho]; exact ⟨fun g => (by cases g), fun m' g => by injection g with g; subst g; exact ⟨rfl, rfl⟩⟩⟩
theorem minO_none (o : Option Nat) : minO o none = o := by cases o <;> rfl
theorem few_lone {c : TChamber} {hs : List THull} (hl : hs.length ≤ 4) {o : Option Nat} (ho : FewR (fitG c hs) (2 ^ hs.length - 1) o) {k : Nat} (hk : k < hs.length) (h : fits c [hs.getD k noHull] = false) : o = none := by
  cases o with
  | none => rfl
  | some m => have := single_of hl (ho.is m rfl) k hk; rw [h] at this; cases this
theorem few_some {c : TChamber} {hs : List THull} (hl : hs.length ≤ 4) {o : Option Nat} (ho : FewR (fitG c hs) (2 ^ hs.length - 1) o) (h : ∀ k, k < hs.length → fits c [hs.getD k noHull] = true) : ∃ m, o = some m := by
  obtain ⟨m, hm⟩ := grp_all hl h (2 ^ hs.length - 1) (by have := Nat.two_pow_pos hs.length; omega)
  obtain ⟨m', e, -⟩ := ho.le m hm
  exact ⟨m', e⟩

theorem and_neq : ∀ p : Nat, p < 16 → ∀ s : Nat, s < 16 → (bits BinOp.and IntKind.i64 (p : Int) (s : Int) != (p : Int)) = !decide (p &&& s = p) := by decide +kernel

set_option maxRecDepth 100000 in
set_option maxHeartbeats 2000000 in
theorem l4Groups_any (cl cb : Int) (hc : goodC ⟨cl, cb⟩) {hs : List THull} (hg : goodHs hs) {n : Nat} (hn : hs.length = n) (s : Nat) : s < 2 ^ n → ∀ (w : World) (B : Nat) (A : Option Addr) (c : Nat) (o : Option Nat), IsHulls w B A n hs → FewR (fitG ⟨cl, cb⟩ hs) s o →
    Calls Try.prog 66 #[.agg #[.int .i64 cl, .int .i64 cb], .slice A n c, .int .i64 s] w fun e w' => e = .returned (.int .i64 (encO o)) ∧ Below w.heap.size w w' := by
  have hn4 : n ≤ 4 := by rw [← hn]; exact hg.1
  have hp16 := pow16 hn4
  induction s using Nat.strongRecOn with
  | _ s ih =>
    intro hsn w B A c o h ho
    rcases Nat.eq_zero_or_pos s with h0 | h0
    · subst h0
      have he : Hid (encO o = 0) := Lib.hid (by rw [ho.uniq (FewR.zero _)]; rfl)
      clear ih h ho hg hn
      go_enter Try.func66, Try.ntmps66
      go_wp2_with fail
      go_ret
      exact ⟨by rw [he.out]; rfl, below1 _ _⟩
    · have hs0 : ((s : Int) == 0) = false := by simp; omega
      have CF := Lib.hid (fun p W g K q (hW : IsHulls W W.heap.size (some ⟨g, 0, none⟩) K (chosen hs p)) => l4Fits_any cl cb q hW hc (goodHs_sub hg (chosen_sub hs p)))
      have CH := Lib.hid (fun p (hp : p < 16) K (hK : (chosen hs p).length = K) W (hb : Below w.heap.size w W) => l4Chosen_any p c (h.below hb h.low) hn4 hp K hK)
      have IH := Lib.hid (fun p (hp0 : 0 < p) (hps : p ≤ s) u (hu : FewR (fitG ⟨cl, cb⟩ hs) (s - p) u) W (hb : Below w.heap.size w W) => ih (s - p) (by omega) (by omega) W B A c u (h.below hb h.low) hu)
      have HA := Lib.hid (fun p (hp : p < 16) => and_neq p hp s (by omega))
      have HFE := Lib.hid (fun p => fewR_ex (fitG ⟨cl, cb⟩ hs) (s - p))
      have HBD := Lib.hid (fun m (hm : Grp (fitG ⟨cl, cb⟩ hs) s m) => grp_le hm hn4 hsn)
      have HBU := Lib.hid (fun p (hps : p ≤ s) m (hm : Grp (fitG ⟨cl, cb⟩ hs) (s - p) m) => grp_le hm hn4 (by omega))
      have HEND := Lib.hid (fun q (hq : PartR (fitG ⟨cl, cb⟩ hs) s (fun z => z < s + 1) q) => show encO q = encO o by rw [(hq.all h0 (fun p _ hp => by have := part_le hp; omega)).uniq ho])
      have HFG := Lib.hid (fun p => show fitG ⟨cl, cb⟩ hs p = fits ⟨cl, cb⟩ (chosen hs p) from rfl)
      obtain ⟨E, hE⟩ : ∃ E, encO o = E := ⟨_, rfl⟩
      rw [hE] at HEND ⊢
      have HSTART : Hid (PartR (fitG ⟨cl, cb⟩ hs) s (fun z => z < 1) none) := Lib.hid ⟨fun _ h => (nomatch h), fun p k hp h0 => absurd hp (by omega)⟩
      obtain ⟨f, hf⟩ : ∃ f, fitG ⟨cl, cb⟩ hs = f := ⟨_, rfl⟩
      rw [hf] at IH HFE HBD HBU HEND HFG HSTART
      have hs16 : s < 16 := by omega
      clear ih h ho hg hn hE hf hc
      obtain ⟨xb, hxb⟩ : ∃ x, w.heap.size = x := ⟨_, rfl⟩
      obtain ⟨W1, hW1⟩ : ∃ W, w.alloc (.cells #[.int .i64 cl, .int .i64 cb] 43) = W := ⟨_, rfl⟩
      have HB1 := Lib.hid (show Below w.heap.size w W1 by rw [← hW1]; exact below1 w _)
      have x0 : W1.cell? ⟨xb, 0, none⟩ = some (.int .i64 cl) := by rw [← hW1, ← hxb, sNew]; rfl
      have x1 : W1.cell? ⟨xb, 1, none⟩ = some (.int .i64 cb) := by rw [← hW1, ← hxb, sNew]; rfl
      have hlx := World.block_lt_of_cell? _ _ x0
      have X := Lib.hid (fun W (hq : Below W1.heap.size W1 W) => show W.cell? ⟨xb, 0, none⟩ = some (.int .i64 cl) ∧ W.cell? ⟨xb, 1, none⟩ = some (.int .i64 cb) from ⟨(hq.cell hlx).trans x0, (hq.cell (p := ⟨xb, 1, none⟩) hlx).trans x1⟩)
      have BW := Lib.hid (fun W (hq : Below W1.heap.size W1 W) => HB1.out.trans (hq.mono HB1.out.size))
      clear x0 x1 hlx
      go_enter Try.func66, Try.ntmps66
      go_wp2_with fail
      try rw [hW1]
      clear hW1
      go_loopw [7, 8] (fun v i wr => ∃ (p : Nat) (q : Option Nat) (e : Int), 1 ≤ p ∧ p ≤ s + 1 ∧ i = .int .i64 p ∧ v = .int .i64 e ∧ Hid (e = encO q) ∧ Hid (PartR f s (fun z => z < p) q) ∧ Below W1.heap.size W1 wr) (fun _ i _ => s + 1 - (intOf i).toNat)
      case atStart => exact ⟨1, none, -1, Nat.le_refl _, by omega, rfl, rfl, Lib.hid rfl, HSTART, Below.refl _ _⟩
      case round =>
        clear HSTART
        obtain ⟨p, q, e, hp1, hps, rfl, rfl, hqe, hpr, hq⟩ := hrel
        by_cases hlt : (p : Int) ≤ (s : Int)
        · have hps' : p ≤ s := by omega
          have hnq := HA.out p (by omega)
          by_cases hand : p &&& s = p
          · rw [decide_eq_true hand, Bool.not_true] at hnq
            have HAND := Lib.hid hand
            obtain ⟨T, hT⟩ : ∃ T, chosen hs p = T := ⟨_, rfl⟩
            obtain ⟨K, hK⟩ : ∃ K, T.length = K := ⟨_, rfl⟩
            have CHp := Lib.hid (CH.out p (by omega) K (by rw [hT]; exact hK))
            have CFp := Lib.hid (CF.out p)
            have HFp := HFG.out p
            rw [hT] at CHp CFp HFp
            obtain ⟨F, hF⟩ : ∃ F, fits ⟨cl, cb⟩ T = F := ⟨_, rfl⟩
            rw [hF] at CFp HFp
            have HFP := Lib.hid HFp
            have Q := Lib.hid hq
            clear hand hT hK hF hq HFp CF CH
            go_wp2_with fail
            refine (CHp.out wr (BW.out _ Q.out)).mono ?_
            rintro e4 w4 ⟨g1, c1, g2, c2, rfl, -, ho1, -, hb⟩
            have Q4 := Lib.hid (Q.out.trans (hb.mono Q.out.size))
            have H4 := Lib.hid (own_Hulls ho1)
            obtain ⟨x0, x1⟩ := X.out _ Q4.out
            clear hb ho1 Q CHp
            go_wp2_with fail
            refine (CFp.out w4 g1 K c1 H4.out).mono ?_
            rintro e5 w5 ⟨rfl, hb⟩
            have Q5 := Lib.hid (Q4.out.trans (hb.mono Q4.out.size))
            clear hb CFp x0 x1 Q4 H4
            cases F with
            | false =>
              have HN : Hid (PartR f s (fun z => z < p + 1) q) := Lib.hid (hpr.out.skip p (fun h => by rw [HFP.out] at h; cases h.2) (fun z hz _ => by omega))
              clear HFP
              go_wp2_with fail
              go_roundw
              case rel => exact ⟨p + 1, q, e, by omega, by omega, by go_num, rfl, hqe, HN, Q5.out⟩
              case measure => simp [intOf]; omega
            | true =>
              obtain ⟨u, hu⟩ := HFE.out p
              have HN : Hid (PartR f s (fun z => z < p + 1) (minO q (u.map (· + 1)))) := Lib.hid (hpr.out.take p (by omega) HAND.out HFP.out hu (fun z hz _ => by omega))
              have IHp := Lib.hid (IH.out p (by omega) hps' u hu)
              have HUb := Lib.hid (fun m (hm : u = some m) => HBU.out p hps' m (hu.is m hm))
              have HQb := Lib.hid (fun m (hm : q = some m) => HBD.out m (hpr.out.is m hm))
              have hsp : (s : Int) - (p : Int) = ((s - p : Nat) : Int) := by omega
              obtain ⟨x0, x1⟩ := X.out _ Q5.out
              clear HFP hu
              go_wp2_with fail
              refine (IHp.out w5 (BW.out _ Q5.out)).mono ?_
              rintro e6 w6 ⟨rfl, hb⟩
              have Q6 := Lib.hid (Q5.out.trans (hb.mono Q5.out.size))
              clear hb IHp x0 x1 Q5
              cases u with
              | none =>
                have he : encO none = -1 := rfl
                rw [he]
                have HN2 : Hid (PartR f s (fun z => z < p + 1) q) := Lib.hid (by have := HN.out; rwa [Option.map_none, minO_none] at this)
                clear HN he
                go_wp2_with fail
                go_roundw
                case rel => exact ⟨p + 1, q, e, by omega, by omega, by go_num, rfl, hqe, HN2, Q6.out⟩
                case measure => simp [intOf]; omega
              | some m =>
                have hm4 : m ≤ 4 := Nat.le_trans (HUb.out m rfl) hn4
                have he : encO (some m) = (m : Int) := rfl
                rw [he]
                clear he
                cases q with
                | none =>
                  obtain rfl : e = -1 := hqe.out
                  have HN2 : Hid (PartR f s (fun z => z < p + 1) (some (m + 1))) := Lib.hid HN.out
                  clear HN
                  go_wp2_with fail
                  go_roundw
                  case rel => exact ⟨p + 1, some (m + 1), (m : Int) + 1, by omega, by omega, by go_num, rfl, Lib.hid (by show (m : Int) + 1 = ((m + 1 : Nat) : Int); omega), HN2, Q6.out⟩
                  case measure => simp [intOf]; omega
                | some a =>
                  have ha4 : a ≤ 4 := Nat.le_trans (HQb.out a rfl) hn4
                  obtain rfl : e = (a : Int) := hqe.out
                  have ha0 : ¬ (a : Int) < 0 := by omega
                  by_cases hma : (m : Int) + 1 < (a : Int)
                  · have HN2 : Hid (PartR f s (fun z => z < p + 1) (some (m + 1))) := Lib.hid (by have h := HN.out; have e1 : minO (some a) ((some m).map (· + 1)) = some (min a (m + 1)) := rfl; rw [e1, Nat.min_eq_right (by omega)] at h; exact h)
                    clear HN
                    go_wp2_with fail
                    go_roundw
                    case rel => exact ⟨p + 1, some (m + 1), (m : Int) + 1, by omega, by omega, by go_num, rfl, Lib.hid (by show (m : Int) + 1 = ((m + 1 : Nat) : Int); omega), HN2, Q6.out⟩
                    case measure => simp [intOf]; omega
                  · have HN2 : Hid (PartR f s (fun z => z < p + 1) (some a)) := Lib.hid (by have h := HN.out; have e1 : minO (some a) ((some m).map (· + 1)) = some (min a (m + 1)) := rfl; rw [e1, Nat.min_eq_left (by omega)] at h; exact h)
                    clear HN
                    go_wp2_with fail
                    go_roundw
                    case rel => exact ⟨p + 1, some a, (a : Int), by omega, by omega, by go_num, rfl, Lib.hid rfl, HN2, Q6.out⟩
                    case measure => simp [intOf]; omega
          · rw [decide_eq_false hand, Bool.not_false] at hnq
            have HN : Hid (PartR f s (fun z => z < p + 1) q) := Lib.hid (hpr.out.skip p (fun h => hand h.1) (fun z hz _ => by omega))
            clear hand
            go_wp2_with fail
            go_roundw
            case rel => exact ⟨p + 1, q, e, by omega, by omega, by go_num, rfl, hqe, HN, hq⟩
            case measure => simp [intOf]; omega
        · obtain rfl : p = s + 1 := by omega
          obtain rfl : e = E := by rw [hqe.out]; exact HEND.out q hpr.out
          have Q := Lib.hid hq
          clear HEND hpr hqe hq
          go_wp2_with fail
          go_ret
          exact ⟨rfl, by first | exact BW.out _ Q.out | (rw [← hxb]; exact BW.out _ Q.out)⟩

set_option maxRecDepth 100000 in
set_option maxHeartbeats 2000000 in
theorem fewS_any {w : World} {B : Nat} {A : Option Addr} {n : Nat} {hs : List THull} (cl cb : Int) (c : Nat) (h : IsHulls w B A n hs) (hm : n ≤ 1048576) (hnc : n ≤ c) (x : Int) (y : Bool) (hA : FewA ⟨cl, cb⟩ hs x y) :
    Calls Try.prog 26 #[.agg #[.int .i64 cl, .int .i64 cb], .slice A n c] w fun e w' => e = .returned (.tuple #[.int .i64 x, .bool y]) ∧ Below w.heap.size w w' := by
  have CC := Lib.hid (fun W => l4Chamber_any cl cb W)
  have CG := Lib.hid (fun W (hb : Below w.heap.size w W) => l4Good_any c (h.below hb h.low) (Nat.le_trans hm (by unfold maxLen; omega)))
  have CF := Lib.hid (fun (hc : goodC ⟨cl, cb⟩) (hg : goodHs hs) a (ha : A = some a) k (hk : k < n) q W (hB : Below w.heap.size w W) => l4Fits_any cl cb q (hulls_cut (ha ▸ h.below hB h.low) k k (Nat.le_refl _) hk) hc (goodHs_sub hg (cut_sub hs k k)))
  have CGR := Lib.hid (fun (hc : goodC ⟨cl, cb⟩) (hg : goodHs hs) s (hs' : s < 2 ^ n) o (ho : FewR (fitG ⟨cl, cb⟩ hs) s o) W (hB : Below w.heap.size w W) => l4Groups_any cl cb hc hg h.len s hs' W B A c o (h.below hB h.low) ho)
  have HH := Lib.hid h
  have HA := Lib.hid hA
  have HGI := Lib.hid (gHs_iff hs)
  obtain ⟨xb, hxb⟩ : ∃ x, w.heap.size = x := ⟨_, rfl⟩
  obtain ⟨W1, hW1⟩ : ∃ W, w.alloc (.cells #[.int .i64 cl, .int .i64 cb] 43) = W := ⟨_, rfl⟩
  have HB1 := Lib.hid (show Below w.heap.size w W1 by rw [← hW1]; exact below1 w _)
  have x0 : W1.cell? ⟨xb, 0, none⟩ = some (.int .i64 cl) := by rw [← hW1, ← hxb, sNew]; rfl
  have x1 : W1.cell? ⟨xb, 1, none⟩ = some (.int .i64 cb) := by rw [← hW1, ← hxb, sNew]; rfl
  have hlx := World.block_lt_of_cell? _ _ x0
  have X := Lib.hid (fun W (hq : Below W1.heap.size W1 W) => show W.cell? ⟨xb, 0, none⟩ = some (.int .i64 cl) ∧ W.cell? ⟨xb, 1, none⟩ = some (.int .i64 cb) from ⟨(hq.cell hlx).trans x0, (hq.cell (p := ⟨xb, 1, none⟩) hlx).trans x1⟩)
  have BW := Lib.hid (fun W (hq : Below W1.heap.size W1 W) => HB1.out.trans (hq.mono HB1.out.size))
  clear h hA hlx
  go_enter Try.func26, Try.ntmps26
  go_wp2_with fail
  try rw [hW1]
  clear hW1
  refine (CC.out _).mono ?_
  rintro e w1 ⟨rfl, hb⟩
  have Q1 := Lib.hid hb
  clear hb CC x0 x1
  by_cases hc : goodC ⟨cl, cb⟩
  · rw [decide_eq_true hc]
    have HC := Lib.hid hc
    clear hc
    obtain ⟨y0, y1⟩ := X.out _ Q1.out
    go_wp2_with fail
    refine (CG.out _ (BW.out _ Q1.out)).mono ?_
    rintro e w2 ⟨rfl, hb⟩
    have Q2 := Lib.hid (Q1.out.trans (hb.mono Q1.out.size))
    clear hb CG Q1 y0 y1
    obtain ⟨G, hG⟩ : ∃ G, gHs hs = G := ⟨_, rfl⟩
    rw [hG] at HGI ⊢
    have HGE := Lib.hid hG
    clear hG
    cases G with
    | false =>
      obtain ⟨rfl, rfl⟩ := HA.out.bad (by rw [HGE.out, Bool.and_false])
      clear HA CF CGR HGI X
      go_wp2_with fail
      refine bodyPost_ret (results_tmp2 rfl _ _ _) rfl ?_
      exact ⟨rfl, by first | exact BW.out _ Q2.out | (rw [← hxb]; exact BW.out _ Q2.out)⟩
    | true =>
      have HG := Lib.hid (HGI.out.1 rfl)
      obtain ⟨o, ho⟩ := fewR_ex (fitG ⟨cl, cb⟩ hs) (2 ^ hs.length - 1)
      obtain ⟨hno, hyes⟩ := HA.out.yes o HC.out HG.out ho
      have hn4 : n ≤ 4 := by rw [← HH.out.len]; exact HG.out.1
      have HLO := Lib.hid (fun k hk hf => hno (few_lone HG.out.1 ho (k := k) hk hf))
      have HSO := Lib.hid (fun hf => few_some HG.out.1 ho hf)
      have HY := Lib.hid hyes
      have CFk := Lib.hid (CF.out HC.out HG.out)
      rw [HH.out.len] at ho HLO HSO
      obtain ⟨N, hN⟩ : ∃ N, 2 ^ n = N := ⟨_, rfl⟩
      have hN0 : 0 < N := by rw [← hN]; exact Nat.two_pow_pos n
      have hN16 : N ≤ 16 := by rw [← hN]; exact pow16 hn4
      have CGk := Lib.hid (CGR.out HC.out HG.out (2 ^ n - 1) (by omega) o ho)
      have hNi : (2 : Int) ^ n = (N : Int) := by rw [← hN]; simp
      have hN1 : (N : Int) - 1 = ((N - 1 : Nat) : Int) := by omega
      rw [hN] at CGk
      clear HA CF CGR HGI hno hyes ho hN
      go_wp2_with fail
      go_loopw [6] (fun i wr => ∃ k : Nat, k ≤ n ∧ i = .int .i64 k ∧ Hid (∀ j, j < k → fits ⟨cl, cb⟩ [hs.getD j noHull] = true) ∧ Below W1.heap.size W1 wr) (fun i _ => n - (intOf i).toNat)
      case atStart => exact ⟨0, Nat.zero_le _, rfl, Lib.hid (fun j hj => absurd hj (by omega)), Q2.out⟩
      case round =>
        clear Q2
        obtain ⟨k, hk, rfl, hall, hq⟩ := hrel
        obtain ⟨x0, x1⟩ := X.out _ hq
        by_cases hlt : k < n
        · have hkh : k < hs.length := by rw [HH.out.len]; exact hlt
          obtain ⟨aH, rfl, -, -⟩ := HH.out.has.Hull hkh
          have C1 := Lib.hid (CFk.out aH rfl k hlt (c - k))
          rw [cut_one hkh, Nat.add_sub_cancel_left] at C1
          obtain ⟨F1, hF1⟩ : ∃ F, fits ⟨cl, cb⟩ [hs.getD k noHull] = F := ⟨_, rfl⟩
          have H1 := Lib.hid hF1
          rw [hF1] at C1
          have Q := Lib.hid hq
          have hck : ¬ c = k := by omega
          have hi1 : (k : Int) ≤ (k : Int) + 1 := by omega
          have hi2 : (k : Int) + 1 ≤ (c : Int) := by omega
          have hi4 : (0 : Int) ≤ (k : Int) := by omega
          have hi6 : (k : Int) < (n : Int) := by omega
          have X0 := fun (d : Nat) (os : Array Obj) => cell_regrown x0 d os
          have X1 := fun (d : Nat) (os : Array Obj) => cell_regrown x1 d os
          have cM := fun (dr : Nat) (os : Array Obj) => Calls.regrown_of (w := wr) (d := dr) (os := os) (C1.out _ ((BW.out _ Q.out).trans ((below_regrown wr dr os).mono (BW.out _ Q.out).size)))
          clear hF1 hq x0 x1 C1 CFk CGk
          go_wp2
          refine wp_region_quiet_below (by kernel_rfl) (by kernel_rfl) ?_
          repeat (go_big_quiet_step (first | exact cM _ _))
          refine wpQuiet_nil ?_
          intro _ hw'
          obtain ⟨⟨dq, osq⟩, hw''⟩ := hw'
          subst hw''
          have Q3 := Lib.hid (Q.out.trans ((below_regrown wr dq osq).mono Q.out.size))
          clear X0 X1 cM
          cases F1 with
          | false =>
            obtain ⟨rfl, rfl⟩ := HLO.out k (by first | exact hlt | exact hkh) H1.out
            clear HLO HSO HY H1
            go_wp2_with fail
            refine bodyPost_ret (results_tmp2 rfl _ _ _) rfl ?_
            exact ⟨rfl, by first | exact BW.out _ Q3.out | (rw [← hxb]; exact BW.out _ Q3.out)⟩
          | true =>
            have HN : Hid (∀ j, j < k + 1 → fits ⟨cl, cb⟩ [hs.getD j noHull] = true) := Lib.hid (fun j hj => by
              rcases Nat.lt_succ_iff_lt_or_eq.1 hj with g | g
              · exact hall.out j g
              · subst g; exact H1.out)
            clear H1
            go_wp2_with fail
            go_roundw
            case rel => exact ⟨k + 1, by omega, by go_num, HN, Q3.out⟩
            case measure => simp [intOf]; omega
        · obtain rfl : k = n := by omega
          obtain ⟨m, rfl⟩ := HSO.out (fun j hj => hall.out j (by first | exact hj | (rw [HH.out.len] at hj; exact hj)))
          obtain ⟨rfl, rfl⟩ := HY.out m rfl
          have Q := Lib.hid hq
          clear HSO HY HLO CFk hq hall
          go_wp2_with fail
          refine (CGk.out wr (BW.out _ Q.out)).mono ?_
          rintro e w3 ⟨rfl, hb⟩
          have Q3 := Lib.hid (Q.out.trans (hb.mono Q.out.size))
          have he : encO (some m) = (m : Int) := rfl
          rw [he]
          clear he hb CGk x0 x1
          go_wp2_with fail
          refine bodyPost_ret (results_tmp2 rfl _ _ _) rfl ?_
          exact ⟨rfl, by first | exact BW.out _ Q3.out | (rw [← hxb]; exact BW.out _ Q3.out)⟩
  · rw [decide_eq_false hc]
    obtain ⟨rfl, rfl⟩ := HA.out.bad (by rw [decide_eq_false hc, Bool.false_and])
    obtain ⟨y0, y1⟩ := X.out _ Q1.out
    clear HA CF CGR HGI hc CG X
    go_wp2_with fail
    refine bodyPost_ret (results_tmp2 rfl _ _ _) rfl ?_
    exact ⟨rfl, by first | exact BW.out _ Q1.out | (rw [← hxb]; exact BW.out _ Q1.out)⟩
end Go.Proofs.Ytkdolpgnaabdaab
