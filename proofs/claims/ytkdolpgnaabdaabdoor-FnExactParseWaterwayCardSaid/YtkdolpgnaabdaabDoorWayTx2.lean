/- Chapter 2, the program: the text of a waterway. -/
import Derived.Test.YtkdolpgnaabdaabDoorWayFil
namespace Go.Proofs.YtkdolpgnaabdaabDoor
open Go.RowKit Go.PlainAid

set_option maxHeartbeats 2000000 in
theorem implTxt_any {w : World} {B : Nat} {A A2 : Option Addr} {n n2 : Nat} {rs : List (Int × Int × Int)} {zs : List Int} (c c2 : Nat) (h : IsWay w B A n A2 n2 rs zs) (hm : n ≤ maxLen) (x : ByteArray) (b : Bool)
    (hyes : goodW rs zs → x = txt rs zs n ∧ b = true) (hno : ¬ goodW rs zs → x = ⟨#[]⟩ ∧ b = false) (ht : Tab w) (hx : Mx w) :
    Calls Tryd.prog 12 #[.agg #[.slice A n c, .slice A2 n2 c2]] w fun e w' => e = .returned (.tuple #[.string x, .bool b]) ∧ Below w.heap.size w w' := by
  have HG := Lib.hid (fun (b : Bool) (hy : goodW rs zs → b = true) (hn : ¬ goodW rs zs → b = false) (o : Obj) => (good_two c c2 (h.below ((Below.refl _ w).alloc (Nat.le_refl _) o) h.low) hm b hy hn).2)
  have HW := Lib.hid h
  clear h
  by_cases hg : goodW rs zs
  · obtain ⟨rfl, rfl⟩ := hyes hg
    have G := Lib.hid (HG.out true (fun _ => rfl) (fun h => absurd hg h))
    have HA := Lib.hid (goodW_all hg)
    have HS := Lib.hid (fun k (hk : k ≤ rs.length) => txt_size hg k hk)
    have HX := Lib.hid (fun hh => txt_step0 rs zs hh)
    have HY := Lib.hid (fun k hh hz => txt_step rs zs k hh hz)
    have hn6 : n ≤ 6 := by rw [← HW.out.len]; exact hg.1.2
    have HN2 := Lib.hid hg.2.1
    have LF := Lib.hid (fun (z : Int) (W : World) (hz : -999999 ≤ z ∧ z ≤ 999999) (hW : Below w.heap.size w W) => fillL z W hz (ht.on hW (Nat.le_refl _)) (hx.on hW (Nat.le_refl _)))
    have RF := Lib.hid (fun (l d s : Int) (W : World) (h1 : -999999 ≤ l ∧ l ≤ 999999) (h2 : -999999 ≤ d ∧ d ≤ 999999) (h3 : -999999 ≤ s ∧ s ≤ 999999) (hW : Below w.heap.size w W) => fillR l d s W h1 h2 h3 (ht.on hW (Nat.le_refl _)) (hx.on hW (Nat.le_refl _)))
    clear HG hg hyes hno hm ht hx
    go_enter Tryd.func12, Tryd.ntmps12
    go_wp2_with fail
    refine (G.out _).mono ?_
    rintro e w1 ⟨rfl, hb⟩
    have c0 : w1.cell? ⟨w.heap.size, 0, none⟩ = some (.slice A n c) := (hb.cell (by simp)).trans (by rw [cellNew]; rfl)
    have c1 : w1.cell? ⟨w.heap.size, 1, none⟩ = some (.slice A2 n2 c2) := (hb.cell (by simp)).trans (by rw [cellNew]; rfl)
    have B1 := Lib.hid (((Below.refl _ w).alloc (Nat.le_refl _) _).trans (hb.mono (by simp)))
    have zw : w.heap.size < w1.heap.size := by have := hb.size; simp at this; omega
    clear hb G
    go_wp2_with fail
    go_loopw [4, 13] (fun t i wr => ∃ k : Nat, k ≤ n ∧ i = .int .i64 k ∧ t = .string (txt rs zs k) ∧ Below w1.heap.size w1 wr) (fun _ i _ => n - (intOf i).toNat)
    case atStart => exact ⟨0, Nat.zero_le _, rfl, rfl, Below.refl _ _⟩
    case round =>
      obtain ⟨k, hk, rfl, rfl, hb⟩ := hrel
      have HBB := Lib.hid (B1.out.trans (hb.mono B1.out.size))
      have hT := HS.out k (by rw [HW.out.len]; exact hk)
      have hk0 : (0 : Int) ≤ (k : Int) := by omega
      by_cases hlt : k < n
      · have hkl : k < rs.length := by rw [HW.out.len]; exact hlt
        have IW := Lib.hid (HW.out.below HBB.out HW.out.low)
        obtain ⟨a1, rfl, hab, e0, e1, e2⟩ := IW.out.has.reachAt hkl
        obtain ⟨f1, f2⟩ := reach_forms e1 e2
        have hk1 : (k : Int) < (n : Int) := by omega
        have c1r : wr.cell? ⟨w.heap.size, 1, none⟩ = some (.slice A2 n2 c2) := (hb.cell (p := ⟨w.heap.size, 1, none⟩) zw).trans c1
        obtain ⟨⟨l0, l1⟩, ⟨d0, d1⟩, s0, s1⟩ := HA.out.1 _ (List.getElem_mem hkl)
        have hln := Lib.hid (lineR_size (rs[k]'hkl).1 (rs[k]'hkl).2.1 (rs[k]'hkl).2.2 (by omega) (by omega) (by omega))
        have FR := Lib.hid (fun W (hW : Below w.heap.size w W) => RF.out (rs[k]'hkl).1 (rs[k]'hkl).2.1 (rs[k]'hkl).2.2 W (by omega) (by omega) (by omega) hW)
        have hbs := hb.size
        rcases Nat.eq_zero_or_pos k with hz0 | hz0
        · have HE : Hid (txt rs zs (k + 1) = txt rs zs k ++ (lineR (rs[k]'hkl).1 (rs[k]'hkl).2.1 (rs[k]'hkl).2.2 ++ ⟨#[10]⟩)) := Lib.hid (by subst hz0; exact HX.out hkl)
          have hkz : ¬ (0 : Int) < (k : Int) := by omega
          generalize (rs[k]'hkl).1 = l at e0 FR HE hln
          generalize (rs[k]'hkl).2.1 = d at f1 FR HE hln
          generalize (rs[k]'hkl).2.2 = s at f2 FR HE hln
          generalize lineR l d s = R at FR HE hln
          generalize txt rs zs k = T at hT HE ⊢
          have hR := hln.out
          have HBr := Lib.hid (HBB.out.alloc HBB.out.size (.cells #[.int .i64 l, .int .i64 d, .int .i64 s] 37))
          have HBq := Lib.hid (hb.alloc hb.size (.cells #[.int .i64 l, .int .i64 d, .int .i64 s] 37))
          have F := Lib.hid (FR.out _ HBr.out)
          simp only [World.size_alloc] at F
          clear HA HX HY HS hb IW e1 e2 hz0 LF RF FR
          go_wp2_with fail
          refine F.out.mono ?_
          rintro e w3 ⟨rfl, hb3⟩
          have HB3 := Lib.hid (HBq.out.trans (hb3.mono (by omega)))
          clear hb3 F
          go_wp2_with fail
          exact ⟨⟨k + 1, by omega, by go_num, by rw [HE.out], HB3.out⟩, by simp [intOf]; omega⟩
        · obtain ⟨q, rfl⟩ : ∃ q, k = q + 1 := ⟨k - 1, by omega⟩
          have hql : q < zs.length := by have := HN2.out; have := HW.out.len; omega
          obtain ⟨a2, rfl, hab2, ez⟩ := IW.out.has2.intAt (k := q) hql
          obtain ⟨z0, z1⟩ := HA.out.2 q hql
          have hll := Lib.hid (lineL_size (zs[q]'hql) (by omega))
          have FL := Lib.hid (fun W (hW : Below w.heap.size w W) => LF.out (zs[q]'hql) W (by omega) hW)
          have HE : Hid (txt rs zs (q + 1 + 1) = txt rs zs (q + 1) ++ (lineL (zs[q]'hql) ++ ⟨#[10]⟩) ++ (lineR (rs[q + 1]'hkl).1 (rs[q + 1]'hkl).2.1 (rs[q + 1]'hkl).2.2 ++ ⟨#[10]⟩)) := Lib.hid (HY.out q hkl hql)
          generalize (zs[q]'hql) = z at ez FL HE hll
          generalize lineL z = Z at FL HE hll
          have hZ := hll.out
          have hq0 : (0 : Int) ≤ (q : Int) := by omega
          have hq1 : (q : Int) < (n2 : Int) := by have := HW.out.len2; omega
          have hab3 : a2.block < wr.heap.size := by have := IW.out.low; omega
          generalize (rs[q + 1]'hkl).1 = l at e0 FR HE hln
          generalize (rs[q + 1]'hkl).2.1 = d at f1 FR HE hln
          generalize (rs[q + 1]'hkl).2.2 = s at f2 FR HE hln
          generalize lineR l d s = R at FR HE hln
          generalize txt rs zs (q + 1) = T at hT HE ⊢
          have hR := hln.out
          have HBr := Lib.hid (HBB.out.alloc HBB.out.size (.cells #[.int .i64 l, .int .i64 d, .int .i64 s] 37))
          have HBq := Lib.hid (hb.alloc hb.size (.cells #[.int .i64 l, .int .i64 d, .int .i64 s] 37))
          have c1' : (wr.alloc (.cells #[.int .i64 l, .int .i64 d, .int .i64 s] 37)).cell? ⟨w.heap.size, 1, none⟩ = some (.slice (some a2) n2 c2) := (World.cell?_alloc_lt _ _ _ (by show w.heap.size < _; omega)).trans c1r
          have ez' : (wr.alloc (.cells #[.int .i64 l, .int .i64 d, .int .i64 s] 37)).cell? (a2.add q) = some (.int .i64 z) := (World.cell?_alloc_lt _ _ _ (by rw [addBlock]; exact hab3)).trans ez
          have F := Lib.hid (FL.out _ HBr.out)
          simp only [World.size_alloc] at F
          clear HA HX HY HS hb e1 e2 hz0 LF RF FL
          go_wp2_with fail
          refine F.out.mono ?_
          rintro e w3 ⟨rfl, hb3⟩
          have g0 : w3.cell? ⟨wr.heap.size, 0, none⟩ = some (.int .i64 l) := (hb3.cell (by simp)).trans (by rw [cellNew]; rfl)
          have g1 : w3.cell? ⟨wr.heap.size, 1, none⟩ = some (.int .i64 d) := (hb3.cell (by simp)).trans (by rw [cellNew]; rfl)
          have g2 : w3.cell? ⟨wr.heap.size, 2, none⟩ = some (.int .i64 s) := (hb3.cell (by simp)).trans (by rw [cellNew]; rfl)
          have HB3 := Lib.hid (HBq.out.trans (hb3.mono (by omega)))
          have F2 := Lib.hid (FR.out _ (HBr.out.trans (hb3.mono (by omega))))
          clear hb3 F FR
          go_wp2_with fail
          refine F2.out.mono ?_
          rintro e w4 ⟨rfl, hb4⟩
          have HB4 := Lib.hid (HB3.out.trans (hb4.mono HB3.out.size))
          clear hb4 F2
          go_wp2_with fail
          exact ⟨⟨q + 1 + 1, by omega, by go_num, by rw [HE.out], HB4.out⟩, by simp [intOf]; omega⟩
      · obtain rfl : k = n := by omega
        have hlt4 : ¬ (k : Int) < (k : Int) := by omega
        clear HA HX HY HS LF RF
        go_wp2_with fail
        refine bodyPost_ret (results_tmp2 rfl _ _ _) rfl ?_
        exact ⟨rfl, HBB.out⟩
  · obtain ⟨rfl, rfl⟩ := hno hg
    have G := Lib.hid (HG.out false (fun h => absurd h hg) (fun _ => rfl))
    clear HG hyes hno
    go_enter Tryd.func12, Tryd.ntmps12
    go_wp2_with fail
    refine (G.out _).mono ?_
    rintro e w1 ⟨rfl, hb⟩
    go_wp2_with fail
    refine bodyPost_ret (results_tmp2 rfl _ _ _) rfl ?_
    exact ⟨rfl, ((Below.refl _ w).alloc (Nat.le_refl _) _).trans (hb.mono (by simp))⟩
end Go.Proofs.YtkdolpgnaabdaabDoor
