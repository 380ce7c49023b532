/- Chapter 2: the text of a waterway: the model's and the program's, as contracts. -/
import Derived.Test.YtkdolpgnaabdaabDoorTxt
import Derived.Lib.QuietBelow
namespace Go.Proofs.YtkdolpgnaabdaabDoor
open Go.RowKit Go.PlainAid Go.Sort

theorem txt_step0 (rs : List (Int × Int × Int)) (zs : List Int) (h : 0 < rs.length) : txt rs zs 1 = txt rs zs 0 ++ (lineR (rs[0]'h).1 (rs[0]'h).2.1 (rs[0]'h).2.2 ++ kNl) := by
  simp [txt, List.getD_eq_getElem?_getD, List.getElem?_eq_getElem h]
theorem txt_step (rs : List (Int × Int × Int)) (zs : List Int) (k : Nat) (h : k + 1 < rs.length) (hz : k < zs.length) : txt rs zs (k + 2) = txt rs zs (k + 1) ++ (lineL (zs[k]'hz) ++ kNl) ++ (lineR (rs[k + 1]'h).1 (rs[k + 1]'h).2.1 (rs[k + 1]'h).2.2 ++ kNl) := by
  rw [txt, if_neg (by omega)]
  simp only [Nat.add_sub_cancel, List.getD_eq_getElem?_getD, List.getElem?_eq_getElem h, List.getElem?_eq_getElem hz, Option.getD_some]
/-- The numbers of a valid waterway are small. -/
theorem goodW_all {rs : List (Int × Int × Int)} {zs : List Int} (h : goodW rs zs) : (∀ r ∈ rs, (1 ≤ r.1 ∧ r.1 ≤ 100) ∧ (100 ≤ r.2.1 ∧ r.2.1 ≤ 900) ∧ 1 ≤ r.2.2 ∧ r.2.2 ≤ 20) ∧ (∀ j (hj : j < zs.length), -1000 ≤ zs[j] ∧ zs[j] ≤ 1000) := by
  refine ⟨fun r hr => ?_, ((goodW_iff rs zs).1 h).2.2.2⟩
  obtain ⟨j, hj, rfl⟩ := List.getElem_of_mem hr
  exact ((goodW_iff rs zs).1 h).2.2.1 j hj
theorem txt_size {rs : List (Int × Int × Int)} {zs : List Int} (h : goodW rs zs) : ∀ k, k ≤ rs.length → (txt rs zs k).size ≤ 132 * k
  | 0, _ => Nat.le_refl 0
  | 1, hk => by
    obtain ⟨h1, h2, h3⟩ := (goodW_all h).1 _ (List.getElem_mem (show 0 < rs.length by omega))
    have := lineR_size _ _ _ (show -1000000 ≤ (rs[0]'(by omega)).1 ∧ (rs[0]'(by omega)).1 ≤ 1000000 by omega) (show -1000000 ≤ (rs[0]'(by omega)).2.1 ∧ (rs[0]'(by omega)).2.1 ≤ 1000000 by omega) (show -1000000 ≤ (rs[0]'(by omega)).2.2 ∧ (rs[0]'(by omega)).2.2 ≤ 1000000 by omega)
    have e : kNl.size = 1 := by decide
    rw [txt_step0 rs zs (by omega), ByteArray.size_append, ByteArray.size_append]
    have e0 : (txt rs zs 0).size = 0 := rfl
    omega
  | k + 2, hk => by
    have ih := txt_size h (k + 1) (by omega)
    have hz : k < zs.length := by have := h.2.1; omega
    obtain ⟨h1, h2, h3⟩ := (goodW_all h).1 _ (List.getElem_mem (show k + 1 < rs.length by omega))
    have hh := (goodW_all h).2 k hz
    have := lineR_size _ _ _ (show -1000000 ≤ (rs[k + 1]'(by omega)).1 ∧ (rs[k + 1]'(by omega)).1 ≤ 1000000 by omega) (show -1000000 ≤ (rs[k + 1]'(by omega)).2.1 ∧ (rs[k + 1]'(by omega)).2.1 ≤ 1000000 by omega) (show -1000000 ≤ (rs[k + 1]'(by omega)).2.2 ∧ (rs[k + 1]'(by omega)).2.2 ≤ 1000000 by omega)
    have := lineL_size (zs[k]'hz) (by omega)
    have e : kNl.size = 1 := by decide
    rw [txt_step rs zs k (by omega) hz]
    simp only [ByteArray.size_append]
    omega

theorem drawn_regrown {P : Program} {f : FuncId} {args : Array Value} {w : World} {d : Nat} {os : Array Obj} {v : Value}
    (h : Calls P f args (grow (redrawn w d) os) fun e w' => e = .returned v ∧ Drawn (grow (redrawn w d) os) w') : Calls P f args (grow (redrawn w d) os) fun e w'' => e = .returned v ∧ ∃ p : Regrown, w'' = grow (redrawn w p.d) p.os :=
  Calls.regrown_of (h.mono fun _ _ ⟨a, b⟩ => ⟨a, b.below _⟩)

theorem spec_line (T : ByteArray) (l d s : Int) : T ++ ⟨#[114, 101, 97, 99, 104, 32]⟩ ++ numB l ++ ⟨#[32, 107, 109, 32]⟩ ++ numB d ++ ⟨#[32, 99, 109, 32]⟩ ++ numB s ++ ⟨#[32, 107, 109, 47, 104, 10]⟩ = T ++ (lineR l d s ++ kNl) := by
  apply bytes_ext
  simp [lineR, kReach, kKm, kCm, kKmh, kNl]
theorem spec_lock (T : ByteArray) (z : Int) : T ++ ⟨#[108, 111, 99, 107, 32]⟩ ++ numB z ++ ⟨#[10]⟩ = T ++ (lineL z ++ kNl) := by
  apply bytes_ext
  simp [lineL, kLock, kNl]

set_option maxHeartbeats 2000000 in
theorem l2Text_any {w : World} {B : Nat} {A A2 : Option Addr} {n n2 : Nat} {rs : List (Int × Int × Int)} {zs : List Int} (c c2 : Nat) (h : IsWay w B A n A2 n2 rs zs) (hg : goodW rs zs) :
    Calls Tryd.prog 22 #[.agg #[.slice A n c, .slice A2 n2 c2]] w fun e w' => e = .returned (.string (txt rs zs n)) ∧ Below w.heap.size w w' := by
  have HW := Lib.hid h
  have HA := Lib.hid (goodW_all hg)
  have HS := Lib.hid (fun k (hk : k ≤ rs.length) => txt_size hg k hk)
  have HX := Lib.hid (fun hh => txt_step0 rs zs hh)
  have HY := Lib.hid (fun k hh hz => txt_step rs zs k hh hz)
  have hn6 : n ≤ 6 := by rw [← h.len]; exact hg.1.2
  have HN2 := Lib.hid hg.2.1
  have NA := Lib.hid (fun (z : Int) (W : World) (h0 : -1000000000 ≤ z) (h1 : z ≤ 1000000000) => num_any z W h0 h1)
  clear h hg
  go_enter Tryd.func22, Tryd.ntmps22
  go_wp2_with fail
  go_loopw [3, 4] (fun t i wr => ∃ k : Nat, k ≤ n ∧ i = .int .i64 k ∧ t = .string (txt rs zs k) ∧ Below (w.heap.size + 1) (w.alloc (.cells #[.slice A n c, .slice A2 n2 c2] 25)) wr) (fun _ i _ => n - (intOf i).toNat)
  case atStart => exact ⟨0, Nat.zero_le _, rfl, rfl, Below.refl _ _⟩
  case round =>
    obtain ⟨k, hk, rfl, rfl, hb⟩ := hrel
    have hbb : Below w.heap.size w wr := ((Below.refl _ _).alloc (Nat.le_refl _) _).trans (hb.mono (by omega))
    have c0 : wr.cell? ⟨w.heap.size, 0, none⟩ = some (.slice A n c) := (hb.cell (by simp)).trans (by rw [cellNew]; rfl)
    have c1 : wr.cell? ⟨w.heap.size, 1, none⟩ = some (.slice A2 n2 c2) := (hb.cell (by simp)).trans (by rw [cellNew]; rfl)
    have hsz : w.heap.size + 1 ≤ wr.heap.size := by simpa using hb.size
    have hT := HS.out k (by rw [HW.out.len]; exact hk)
    have hk0 : (0 : Int) ≤ (k : Int) := by omega
    by_cases hlt : k < n
    · have hkl : k < rs.length := by rw [HW.out.len]; exact hlt
      have IW := Lib.hid (HW.out.below hbb HW.out.low)
      obtain ⟨a1, rfl, hab, e0, e1, e2⟩ := IW.out.has.reachAt hkl
      obtain ⟨f1, f2⟩ := reach_forms e1 e2
      have hk1 : (k : Int) < (n : Int) := by omega
      obtain ⟨⟨l0, l1⟩, ⟨d0, d1⟩, s0, s1⟩ := HA.out.1 _ (List.getElem_mem hkl)
      have hln := lineR_size (rs[k]'hkl).1 (rs[k]'hkl).2.1 (rs[k]'hkl).2.2 (by omega) (by omega) (by omega)
      have NL := Lib.hid (fun W => NA.out (rs[k]'hkl).1 W (by omega) (by omega))
      have ND := Lib.hid (fun W => NA.out (rs[k]'hkl).2.1 W (by omega) (by omega))
      have NS := Lib.hid (fun W => NA.out (rs[k]'hkl).2.2 W (by omega) (by omega))
      have SL := Lib.hid (numB_size (rs[k]'hkl).1 (by omega) (by omega))
      have SD := Lib.hid (numB_size (rs[k]'hkl).2.1 (by omega) (by omega))
      have SS := Lib.hid (numB_size (rs[k]'hkl).2.2 (by omega) (by omega))
      have HB := Lib.hid hb
      rcases Nat.eq_zero_or_pos k with hz0 | hz0
      · have HE : Hid (txt rs zs (k + 1) = txt rs zs k ++ ⟨#[114, 101, 97, 99, 104, 32]⟩ ++ numB (rs[k]'hkl).1 ++ ⟨#[32, 107, 109, 32]⟩ ++ numB (rs[k]'hkl).2.1 ++ ⟨#[32, 99, 109, 32]⟩ ++ numB (rs[k]'hkl).2.2 ++ ⟨#[32, 107, 109, 47, 104, 10]⟩) := Lib.hid (by subst hz0; rw [HX.out hkl, spec_line])
        have hkz : ¬ (0 : Int) < (k : Int) := by omega
        generalize (rs[k]'hkl).1 = l at e0 NL SL HE l0 l1
        generalize (rs[k]'hkl).2.1 = d at f1 ND SD HE d0 d1
        generalize (rs[k]'hkl).2.2 = s at f2 NS SS HE s0 s1
        generalize numB l = bl at NL SL HE
        generalize numB d = bd at ND SD HE
        generalize numB s = bs at NS SS HE
        generalize txt rs zs (k) = T at hT HE ⊢
        have sl := SL.out
        have sd := SD.out
        have ss := SS.out
        have HW2 := Lib.hid ((HB.out.alloc hsz (.cells #[.int .i64 l, .int .i64 d, .int .i64 s] 37)))
        clear HA HX HY HS hb hbb IW e1 e2 hln hz0 NA
        go_wp2_with fail
        go_quiet (first | (go_at_call_of 30 (Value.int .i64 l); exact quiet_of_drawn (NL.out _)) | (go_at_call_of 30 (Value.int .i64 d); exact quiet_of_drawn (ND.out _)) | (go_at_call_of 30 (Value.int .i64 s); exact quiet_of_drawn (NS.out _)))
        go_wp2_with fail
        exact ⟨⟨k + 1, by omega, by go_num, by rw [HE.out], HW2.out.trans ((Drawn.one _ _).below _)⟩, by simp [intOf]; omega⟩
      · obtain ⟨q, rfl⟩ : ∃ q, k = q + 1 := ⟨k - 1, by omega⟩
        have hql : q < zs.length := by have := HN2.out; have := HW.out.len; omega
        obtain ⟨a2, rfl, hab2, ez⟩ := IW.out.has2.intAt (k := q) hql
        have HE : Hid (txt rs zs (q + 1 + 1) = txt rs zs (q + 1) ++ ⟨#[108, 111, 99, 107, 32]⟩ ++ numB (zs[q]'hql) ++ ⟨#[10]⟩ ++ ⟨#[114, 101, 97, 99, 104, 32]⟩ ++ numB (rs[q + 1]'hkl).1 ++ ⟨#[32, 107, 109, 32]⟩ ++ numB (rs[q + 1]'hkl).2.1 ++ ⟨#[32, 99, 109, 32]⟩ ++ numB (rs[q + 1]'hkl).2.2 ++ ⟨#[32, 107, 109, 47, 104, 10]⟩) := Lib.hid (by rw [HY.out q hkl hql, spec_line, spec_lock])
        obtain ⟨z0, z1⟩ := HA.out.2 q hql
        have NZ := Lib.hid (fun W => NA.out (zs[q]'hql) W (by omega) (by omega))
        have SZ := Lib.hid (numB_size (zs[q]'hql) (by omega) (by omega))
        generalize (zs[q]'hql) = z at ez NZ SZ HE z0 z1
        generalize numB z = bz at NZ SZ HE
        have sz := SZ.out
        have hq0 : (0 : Int) ≤ (q : Int) := by omega
        have hq1 : (q : Int) < (n2 : Int) := by have := HW.out.len2; omega
        have hab3 : a2.block < wr.heap.size := by have := IW.out.low; omega
        generalize (rs[q + 1]'hkl).1 = l at e0 NL SL HE l0 l1
        generalize (rs[q + 1]'hkl).2.1 = d at f1 ND SD HE d0 d1
        generalize (rs[q + 1]'hkl).2.2 = s at f2 NS SS HE s0 s1
        generalize numB l = bl at NL SL HE
        generalize numB d = bd at ND SD HE
        generalize numB s = bs at NS SS HE
        generalize txt rs zs (q + 1) = T at hT HE ⊢
        have sl := SL.out
        have sd := SD.out
        have ss := SS.out
        have HW2 := Lib.hid ((HB.out.alloc hsz (.cells #[.int .i64 l, .int .i64 d, .int .i64 s] 37)))
        have c1' : (wr.alloc (.cells #[.int .i64 l, .int .i64 d, .int .i64 s] 37)).cell? ⟨w.heap.size, 1, none⟩ = some (.slice (some a2) n2 c2) := (World.cell?_alloc_lt _ _ _ (by show w.heap.size < _; omega)).trans c1
        have ez' : (wr.alloc (.cells #[.int .i64 l, .int .i64 d, .int .i64 s] 37)).cell? (a2.add q) = some (.int .i64 z) := (World.cell?_alloc_lt _ _ _ (by rw [addBlock]; exact hab3)).trans ez
        clear HA HX HY HS hb hbb IW e1 e2 hln hz0 NA
        go_wp2_with fail
        refine (NZ.out _).mono ?_
        rintro e w3 ⟨rfl, hD⟩
        have g0 : w3.cell? ⟨wr.heap.size, 0, none⟩ = some (.int .i64 l) := (hD.cell _).trans (by rw [cellNew]; rfl)
        have g1 : w3.cell? ⟨wr.heap.size, 1, none⟩ = some (.int .i64 d) := (hD.cell _).trans (by rw [cellNew]; rfl)
        have g2 : w3.cell? ⟨wr.heap.size, 2, none⟩ = some (.int .i64 s) := (hD.cell _).trans (by rw [cellNew]; rfl)
        have HW3 := Lib.hid (HW2.out.trans (hD.below _))
        clear hD
        go_wp2_with fail
        go_quiet (first | (go_at_call_of 30 (Value.int .i64 l); exact quiet_of_drawn (NL.out _)) | (go_at_call_of 30 (Value.int .i64 d); exact quiet_of_drawn (ND.out _)) | (go_at_call_of 30 (Value.int .i64 s); exact quiet_of_drawn (NS.out _)))
        go_wp2_with fail
        exact ⟨⟨q + 1 + 1, by omega, by go_num, by rw [HE.out], HW3.out.trans ((Drawn.one _ _).below _)⟩, by simp [intOf]; omega⟩
    · obtain rfl : k = n := by omega
      have hlt4 : ¬ (k : Int) < (k : Int) := by omega
      clear HA HX HY HS
      go_wp2_with fail
      go_ret
      exact ⟨rfl, hbb⟩

end Go.Proofs.YtkdolpgnaabdaabDoor
