/- Chapter 2: whether a waterway is valid. -/
import Derived.Test.YtgnopkemcgbedabReach
import Derived.Deep.MidRow
import Derived.Deep.Slices
namespace Go.Proofs.Ytgnopkemcgbedab
open Go.RowKit Go.PlainAid

theorem cellNew (w : World) (cs : Array Value) (t : TypeId) (k : Nat) : (w.alloc (.cells cs t)).cell? ⟨w.heap.size, k, none⟩ = cs[k]? :=
  cell_of_row _ _ k cs t (0, 0) (heap_alloc_new w _)
/-- The cells of a row of reaches. -/
def flat : List (Int × Int × Int) → List Value
  | [] => []
  | r :: t => .int .i64 r.1 :: .int .i64 r.2.1 :: .int .i64 r.2.2 :: flat t
theorem flat_len : ∀ rs, (flat rs).length = 3 * rs.length
  | [] => rfl
  | r :: t => by simp only [flat, List.length_cons, flat_len t]; omega
theorem flat_at : ∀ (rs : List (Int × Int × Int)) (k : Nat) (h : k < rs.length),
    (flat rs)[k * 3]? = some (.int .i64 rs[k].1) ∧ (flat rs)[k * 3 + 1]? = some (.int .i64 rs[k].2.1) ∧ (flat rs)[k * 3 + 2]? = some (.int .i64 rs[k].2.2)
  | [], k, h => absurd h (by simp)
  | r :: t, 0, _ => ⟨rfl, rfl, rfl⟩
  | r :: t, k + 1, h => by
    have ih := flat_at t k (by simpa using h)
    have e : (k + 1) * 3 = k * 3 + 1 + 1 + 1 := by omega
    rw [e]
    exact ih
theorem Has.reachAt {w : World} {B : Nat} {A : Option Addr} {rs : List (Int × Int × Int)} (h : Has w B A (flat rs)) {k : Nat} (hk : k < rs.length) :
    ∃ a, A = some a ∧ a.block < B ∧ w.cell? (a.add (k * 3)) = some (.int .i64 rs[k].1) ∧ w.cell? (a.add (k * 3 + 1)) = some (.int .i64 rs[k].2.1) ∧ w.cell? (a.add (k * 3 + 2)) = some (.int .i64 rs[k].2.2) := by
  obtain ⟨f0, f1, f2⟩ := flat_at rs k hk
  obtain ⟨a, rfl, hb, h0⟩ := h _ _ f0
  obtain ⟨a1, e1, -, h1⟩ := h _ _ f1
  obtain ⟨a2, e2, -, h2⟩ := h _ _ f2
  injection e1 with e1
  injection e2 with e2
  subst e1
  subst e2
  exact ⟨a, rfl, hb, h0, h1, h2⟩

theorem add_form (x : Addr) (i : Nat) (h : i ≠ 0) : x.add i = ⟨x.block, x.off + i, none⟩ := by
  unfold Addr.add
  rw [if_neg h]
/-- The same cells as the walk asks for them. -/
theorem reach_forms {w : World} {a : Addr} {k : Nat} {u1 u2 : Value} (h1 : w.cell? (a.add (k * 3 + 1)) = some u1) (h2 : w.cell? (a.add (k * 3 + 2)) = some u2) :
    w.cell? ⟨(a.add (k * 3)).block, (a.add (k * 3)).off + 1, none⟩ = some u1 ∧ w.cell? ⟨(a.add (k * 3)).block, (a.add (k * 3)).off + 2, none⟩ = some u2 := by
  rw [← Go.Deep.add_add, add_form _ _ (by omega)] at h1 h2
  exact ⟨h1, h2⟩

/-- What the place j of a waterway must be. -/
def okAt (rs : List (Int × Int × Int)) (zs : List Int) (j : Nat) : Prop :=
  goodR (rs.getD j (0, 0, 0)).1 (rs.getD j (0, 0, 0)).2.1 (rs.getD j (0, 0, 0)).2.2 ∧ (0 < j → -1000 ≤ zs.getD (j - 1) 0 ∧ zs.getD (j - 1) 0 ≤ 1000)
theorem okAt_iff {rs : List (Int × Int × Int)} {zs : List Int} {j : Nat} (h : j < rs.length) (hz : zs.length + 1 = rs.length) :
    okAt rs zs j ↔ goodR rs[j].1 rs[j].2.1 rs[j].2.2 ∧ (∀ h0 : 0 < j, -1000 ≤ zs[j - 1]'(by omega) ∧ zs[j - 1]'(by omega) ≤ 1000) := by
  unfold okAt
  simp only [List.getD_eq_getElem?_getD, List.getElem?_eq_getElem h, Option.getD_some]
  constructor
  · rintro ⟨a, b⟩
    refine ⟨a, fun h0 => ?_⟩
    have := b h0
    rwa [List.getElem?_eq_getElem (by omega), Option.getD_some] at this
  · rintro ⟨a, b⟩
    refine ⟨a, fun h0 => ?_⟩
    rw [List.getElem?_eq_getElem (by omega), Option.getD_some]
    exact b h0
/-- A valid waterway. -/
def goodW (rs : List (Int × Int × Int)) (zs : List Int) : Prop := (1 ≤ rs.length ∧ rs.length ≤ 6) ∧ zs.length + 1 = rs.length ∧ ∀ j, j < rs.length → okAt rs zs j

set_option maxHeartbeats 2000000 in
theorem l2Good_any (A A2 : Option Addr) (n c n2 c2 B : Nat) (rs : List (Int × Int × Int)) (zs : List Int) (w : World) (b : Bool) (hn : rs.length = n) (hn2 : zs.length = n2) (hm : n ≤ maxLen)
    (hB : B ≤ w.heap.size) (h1 : Has w B A (flat rs)) (h2 : Has w B A2 (zs.map (.int .i64))) (hyes : goodW rs zs → b = true) (hno : ¬ goodW rs zs → b = false) :
    Calls Try.prog 94 #[.agg #[.slice A n c, .slice A2 n2 c2]] w fun e w' => e = .returned (.bool b) ∧ Below w.heap.size w w' := by
  unfold maxLen at hm
  have C0 := Lib.hid (fun W => l1In_any (n : Int) 1 6 W)
  have CR := Lib.hid (fun l d s W => l2Single_any l d s W)
  have CI := Lib.hid (fun (z : Int) W => l1In_any z (-1000) 1000 W)
  have HY := Lib.hid hyes
  have HN := Lib.hid hno
  have HL := Lib.hid hn
  have HL2 := Lib.hid hn2
  have H1 := Lib.hid h1
  have H2 := Lib.hid h2
  clear hyes hno hn hn2 h1 h2
  by_cases hr : (1 : Int) ≤ n ∧ (n : Int) ≤ 6
  · have hd : decide ((1 : Int) ≤ n ∧ (n : Int) ≤ 6) = true := decide_eq_true hr
    rw [hd] at C0
    by_cases he : (n2 : Int) = (n : Int) - 1
    · have hne : ((n2 : Int) != (n : Int) - 1) = false := by simp [he]
      have HE := Lib.hid he
      clear hd
      go_enter Try.func94, Try.ntmps94
      go_wp2_with fail
      refine (C0.out _).mono ?_
      rintro e w1 ⟨rfl, rfl⟩
      go_wp2_with fail
      clear he C0
      go_loopw [4] (fun i wr => ∃ k : Nat, k ≤ n ∧ i = .int .i64 k ∧ Hid (∀ j, j < k → okAt rs zs j) ∧ Below (w.heap.size + 1) (w.alloc (.cells #[.slice A n c, .slice A2 n2 c2] 27)) wr) (fun i _ => n - (intOf i).toNat)
      case atStart => exact ⟨0, Nat.zero_le _, rfl, Lib.hid (by simp), Below.refl _ _⟩
      case round =>
        obtain ⟨k, hk, rfl, hall, hb⟩ := hrel
        have hbb : Below w.heap.size w wr := ((Below.refl _ _).alloc (Nat.le_refl _) _).trans (hb.mono (by omega))
        by_cases hlt : k < n
        · have c0 : wr.cell? ⟨w.heap.size, 0, none⟩ = some (.slice A n c) := (hb.cell (by simp)).trans (by rw [cellNew]; rfl)
          have c1 : wr.cell? ⟨w.heap.size, 1, none⟩ = some (.slice A2 n2 c2) := (hb.cell (by simp)).trans (by rw [cellNew]; rfl)
          obtain ⟨a1, rfl, hab, e0, e1, e2⟩ := ((H1.out.alloc hB _).below (hb.mono (by omega))).reachAt (k := k) (by rw [HL.out]; omega)
          have HW := Lib.hid (((H2.out.alloc hB (.cells #[.slice (some a1) n c, .slice A2 n2 c2] 27)).below (hb.mono (by omega))))
          have hk0 : (0 : Int) ≤ (k : Int) := by omega
          have hk1 : (k : Int) < (n : Int) := by omega
          have hkl : k < rs.length := by rw [HL.out]; exact hlt
          have hzl : zs.length + 1 = rs.length := by rw [HL.out, HL2.out]; have := HE.out; omega
          have HOK := Lib.hid (okAt_iff hkl hzl)
          have HF : Hid (¬ okAt rs zs k → b = false) := Lib.hid (fun h => HN.out (fun g => h (g.2.2 k hkl)))
          have HA : Hid (okAt rs zs k → ∀ j, j < k + 1 → okAt rs zs j) := Lib.hid (fun h j hj => by
            rcases Nat.lt_succ_iff_lt_or_eq.1 hj with h1 | h1
            · exact hall.out j h1
            · exact h1 ▸ h)
          have CRk := Lib.hid (fun W => CR.out (rs[k]'hkl).1 (rs[k]'hkl).2.1 (rs[k]'hkl).2.2 W)
          generalize (rs[k]'hkl).1 = l at e0 HOK CRk
          generalize (rs[k]'hkl).2.1 = d at e1 HOK CRk
          generalize (rs[k]'hkl).2.2 = s at e2 HOK CRk
          obtain ⟨f1, f2⟩ := reach_forms e1 e2
          have HBox := Lib.hid hb
          have HBB := Lib.hid hbb
          clear hb hbb hall CR HY HN H1 e1 e2
          by_cases hg : goodR l d s
          · rw [decide_eq_true hg] at CRk
            have hsz : w.heap.size + 1 ≤ wr.heap.size := by simpa using HBox.out.size
            rcases Nat.eq_zero_or_pos k with h0 | h0
            · have HR : Hid (∀ j, j < k + 1 → okAt rs zs j) := Lib.hid (HA.out (HOK.out.2 ⟨hg, fun h => absurd h (by omega)⟩))
              have hkz : ¬ (0 : Int) < (k : Int) := by omega
              clear HOK HA HF HW hg h0
              go_wp2_with fail
              refine (CRk.out _).mono ?_
              rintro e w2 ⟨rfl, hb2⟩
              have HB2 := Lib.hid (HBox.out.trans (hb2.mono hsz))
              clear hb2
              go_wp2_with fail
              go_roundw
              case rel => exact ⟨k + 1, by omega, by go_num, HR, HB2.out⟩
              case measure => simp [intOf]; omega
            · obtain ⟨q, rfl⟩ : ∃ q, k = q + 1 := ⟨k - 1, by omega⟩
              have hql : q < zs.length := by omega
              obtain ⟨a2, rfl, hab2, ez⟩ := HW.out.intAt (k := q) hql
              have HO2 : Hid (okAt rs zs (q + 1) ↔ goodR l d s ∧ (-1000 ≤ zs[q] ∧ zs[q] ≤ 1000)) := Lib.hid (HOK.out.trans ⟨fun ⟨x, y⟩ => ⟨x, y (by omega)⟩, fun ⟨x, y⟩ => ⟨x, fun _ => y⟩⟩)
              have CZ := Lib.hid (fun W => CI.out zs[q] W)
              have hq0 : (0 : Int) ≤ (q : Int) := by omega
              have hq2 : (q : Int) < (n2 : Int) := by rw [HL2.out] at hql; omega
              generalize zs[q] = z at ez HO2 CZ
              clear HOK HW CI
              by_cases hz : -1000 ≤ z ∧ z ≤ 1000
              · rw [decide_eq_true hz] at CZ
                have HR := Lib.hid (HA.out (HO2.out.2 ⟨hg, hz⟩))
                clear HO2 HA HF hg hz
                go_wp2_with fail
                refine (CRk.out _).mono ?_
                rintro e w2 ⟨rfl, hb2⟩
                have c1' : w2.cell? ⟨w.heap.size, 1, none⟩ = some (.slice (some a2) n2 c2) := (hb2.cell (by show w.heap.size < wr.heap.size; omega)).trans c1
                have ez' : w2.cell? (a2.add q) = some (.int .i64 z) := (hb2.cell (by rw [addBlock]; omega)).trans ez
                have HB2 := Lib.hid (HBox.out.trans (hb2.mono hsz))
                clear hb2 c0 c1 ez f1 f2 e0
                go_wp2_with fail
                refine (CZ.out _).mono ?_
                rintro e w3 ⟨rfl, rfl⟩
                go_wp2_with fail
                go_roundw
                case rel => exact ⟨q + 1 + 1, by omega, by go_num, HR, HB2.out⟩
                case measure => simp [intOf]; omega
              · rw [decide_eq_false hz] at CZ
                obtain rfl : b = false := HF.out (fun h => hz (HO2.out.1 h).2)
                clear HO2 HA HF hg hz
                go_wp2_with fail
                refine (CRk.out _).mono ?_
                rintro e w2 ⟨rfl, hb2⟩
                have c1' : w2.cell? ⟨w.heap.size, 1, none⟩ = some (.slice (some a2) n2 c2) := (hb2.cell (by show w.heap.size < wr.heap.size; omega)).trans c1
                have ez' : w2.cell? (a2.add q) = some (.int .i64 z) := (hb2.cell (by rw [addBlock]; omega)).trans ez
                have HB2 := Lib.hid (HBB.out.trans (hb2.mono HBB.out.size))
                clear hb2 c0 c1 ez f1 f2 e0
                go_wp2_with fail
                refine (CZ.out _).mono ?_
                rintro e w3 ⟨rfl, rfl⟩
                go_wp2_with fail
                go_ret
                exact ⟨rfl, HB2.out⟩
          · rw [decide_eq_false hg] at CRk
            obtain rfl : b = false := HF.out (fun h => hg (HOK.out.1 h).1)
            clear HOK HF HA hg
            go_wp2_with fail
            refine (CRk.out _).mono ?_
            rintro e w2 ⟨rfl, hb2⟩
            go_wp2_with fail
            go_ret
            exact ⟨rfl, HBB.out.trans (hb2.mono HBB.out.size)⟩
        · obtain rfl : k = n := by omega
          obtain rfl : b = true := HY.out ⟨by rw [HL.out]; omega, by rw [HL.out, HL2.out]; have := HE.out; omega, fun j hj => hall.out j (by rw [HL.out] at hj; exact hj)⟩
          go_wp2
          go_ret
          exact ⟨rfl, hbb⟩
    · have hne : ((n2 : Int) != (n : Int) - 1) = true := by simp [he]
      obtain rfl : b = false := HN.out (fun h => he (by have := h.2.1; rw [HL.out, HL2.out] at this; omega))
      clear hd
      go_enter Try.func94, Try.ntmps94
      go_wp2_with fail
      refine (C0.out _).mono ?_
      rintro e w1 ⟨rfl, rfl⟩
      go_wp2_with fail
      go_ret
      exact ⟨rfl, (Below.refl _ _).alloc (Nat.le_refl _) _⟩
  · have hd : decide ((1 : Int) ≤ n ∧ (n : Int) ≤ 6) = false := decide_eq_false hr
    rw [hd] at C0
    obtain rfl : b = false := HN.out (fun h => hr (by have := h.1; rw [HL.out] at this; omega))
    clear hd
    go_enter Try.func94, Try.ntmps94
    go_wp2_with fail
    refine (C0.out _).mono ?_
    rintro e w1 ⟨rfl, rfl⟩
    go_wp2_with fail
    go_ret
    exact ⟨rfl, (Below.refl _ _).alloc (Nat.le_refl _) _⟩
end Go.Proofs.Ytgnopkemcgbedab
