/- Chapter 9, the alone bound: the model and the program. -/
import Derived.Test.YtkdolpgnaabdaaaBdN
import Derived.Test.YtkdolpgnaabdaaaLkH
namespace Go.Proofs.Ytkdolpgnaabdaaa
open Go.RowKit Go.PlainAid Go.Sort
set_option linter.unusedVariables false
set_option linter.unusedSimpArgs false

/-- One of a row as a row. -/
theorem has_oneA {W : World} {B : Nat} {a : Addr} {k : Nat} {V : TArrival} (hb : a.block < B) (h : ArrivalAt W a k V) : Has W B (some (a.add (k * 4))) (flatArrival [V]) := by
  intro j u hj
  refine ⟨_, rfl, by rw [addBlock]; exact hb, ?_⟩
  have hlt := (List.getElem?_eq_some_iff.1 hj).1
  rw [flatArrival_len] at hlt
  simp at hlt
  have h4 : j = 0 ∨ j = 1 ∨ j = 2 ∨ j = 3 := by omega
  rcases h4 with rfl | rfl | rfl | rfl
  · rw [Go.Deep.add_add]; simp [flatArrival] at hj; subst hj; exact h.c0
  · rw [addFormS _ _ (by omega)]; simp [flatArrival] at hj; subst hj; exact h.c1
  · rw [addFormS _ _ (by omega)]; simp [flatArrival] at hj; subst hj; exact h.c2
  · rw [addFormS _ _ (by omega)]; simp [flatArrival] at hj; subst hj; exact h.c3
theorem is_oneA {W : World} {B : Nat} {a : Addr} {k : Nat} {V : TArrival} (hb : a.block < B) (hB : B ≤ W.heap.size) (h : ArrivalAt W a k V) : IsArrivals W B (some (a.add (k * 4))) 1 [V] := ⟨rfl, hB, has_oneA hb h⟩
/-- A literal of one number. -/
theorem is_one0 (W : World) : IsIs (W.alloc (.cells #[.int .i64 0] 3)) (W.heap.size + 1) (some ⟨W.heap.size, 0, none⟩) 1 [0] := by
  refine ⟨rfl, by simp, fun j u hj => ⟨_, rfl, by simp, ?_⟩⟩
  rw [addO, Nat.zero_add, sNew]
  simpa using hj
abbrev objA (V : TArrival) : Obj := .cells #[.int .i64 V.x0, .bool V.x1, .int .i64 V.x2, .int .i64 V.x3] 58
theorem is_newA (W : World) (V : TArrival) : IsArrivals (W.alloc (objA V)) (W.heap.size + 1) (some ⟨W.heap.size, 0, none⟩) 1 [V] := by
  refine ⟨rfl, by simp, fun j u hj => ⟨_, rfl, by simp, ?_⟩⟩
  rw [addO, Nat.zero_add, sNew]
  simpa [flatArrival] using hj
/-- The arguments of a lockage of one alone. -/
theorem lone_args (wr : World) (V : TArrival) (o : Obj) : IsArrivals (((wr.alloc o).alloc (objA V)).alloc (.cells #[.int .i64 0] 3)) (wr.heap.size + 2) (some ⟨wr.heap.size + 1, 0, none⟩) 1 [V] ∧
    IsIs (((wr.alloc o).alloc (objA V)).alloc (.cells #[.int .i64 0] 3)) (wr.heap.size + 1 + 1 + 1) (some ⟨wr.heap.size + 1 + 1, 0, none⟩) 1 [0] ∧
    Below wr.heap.size wr (((wr.alloc o).alloc (objA V)).alloc (.cells #[.int .i64 0] 3)) := by
  have h1 := is_newA (wr.alloc o) V
  have h2 := is_one0 ((wr.alloc o).alloc (objA V))
  simp only [World.size_alloc] at h1 h2
  exact ⟨h1.below (below1 _ _) (by simp), h2, (below2 wr _ _).alloc (by simp; omega) _⟩
theorem in_one0 : ∀ p, p < 1 → inA 1 (([0] : List Int).getD p 0) := fun p hp => by
  obtain rfl : p = 0 := by omega
  unfold inA; simp
set_option maxHeartbeats 1000000 in
theorem asked_any {w : World} {B : Nat} {A : Option Addr} {n : Nat} {vs : List TArrival} (c : Nat) (h : IsArrivals w B A n vs) (hm : n ≤ 1048576) (m : Int) :
    Calls Try.prog 45 #[.slice A n c, .int .i64 m] w fun e w' => e = .returned (.bool (gM vs m)) ∧ Below w.heap.size w w' := by
  have C := Lib.hid (l8Good_any c h (Nat.le_trans hm (by unfold maxLen; omega)))
  have CM := Lib.hid (fun W => l8Minutes_any m W)
  unfold gM
  generalize gAs vs = G at C ⊢
  generalize decide (1 ≤ m ∧ m ≤ 60) = D at CM ⊢
  clear h
  go_enter Try.func45, Try.ntmps45
  go_wp2_with fail
  refine C.out.mono ?_
  rintro e w1 ⟨rfl, hb⟩
  have HB := Lib.hid hb
  clear hb C
  cases G with
  | false =>
    go_wp2_with fail
    go_ret
    exact ⟨rfl, HB.out⟩
  | true =>
    go_wp2_with fail
    refine (CM.out _).mono ?_
    rintro e w2 ⟨rfl, rfl⟩
    go_wp2_with fail
    go_ret
    exact ⟨ret_bool (by simp), HB.out⟩
set_option maxRecDepth 100000 in
set_option maxHeartbeats 4000000 in
theorem l9Alone_any {w : World} {B : Nat} {A : Option Addr} {n : Nat} {vs : List TArrival} (c : Nat) (h : IsArrivals w B A n vs) (hm : n ≤ 6) (hnc : n ≤ c) (hg : goodAs vs) (hi : Bool) (m : Int) (hmm : 1 ≤ m ∧ m ≤ 60) :
    Calls Try.prog 48 #[.slice A n c, .bool hi, .int .i64 m] w fun e w' => e = .returned (.int .i64 (alS vs hi m n)) ∧ Below w.heap.size w w' := by
  have HI := Lib.hid h
  have HG := Lib.hid hg
  have HBD := Lib.hid (fun k (hk : k ≤ vs.length) => alS_bd hg hi hmm k hk)
  clear h hg
  go_enter Try.func48, Try.ntmps48
  go_wp2_with fail
  go_loopw [7, 8] (fun z i wr => ∃ k : Nat, k ≤ n ∧ i = .int .i64 k ∧ z = .int .i64 (alS vs hi m k) ∧ Below w.heap.size w wr) (fun _ i _ => n - (intOf i).toNat)
  case atStart => exact ⟨0, Nat.zero_le _, rfl, rfl, Below.refl _ _⟩
  case round =>
    obtain ⟨k, hk, rfl, rfl, hb⟩ := hrel
    have HB := Lib.hid hb
    by_cases hlt : k < n
    · have hlv : k < vs.length := by rw [HI.out.len]; exact hlt
      obtain ⟨a1, rfl, hab, HV⟩ := (HI.out.below hb HI.out.low).has.Arrival (k := k) hlv
      have hgk := (HG.out.2 k hlv).1
      have hsn := alS_snoc (vs := vs) hi m hlv
      have hbd := HBD.out k (by omega)
      have h1 := al1_bd hgk hi hmm
      have HS := Lib.hid ((is_oneA hab (HI.out.below hb HI.out.low).low HV).below (below1 wr (.cells #[.int .i64 0] 3)) (HI.out.below hb HI.out.low).low)
      have C := Lib.hid (l8Delay_any (c - k) 1 HS.out (by omega) (is_one0 wr) (by omega) hi m hmm (goodAs_one hgk) in_one0)
      rw [dly_one] at C
      generalize al1 hi m (vs.getD k noArrival) = d at C h1 hsn
      have HSN := Lib.hid hsn
      obtain ⟨s0, hs0⟩ : ∃ s, alS vs hi m k = s := ⟨_, rfl⟩
      rw [hs0] at hbd HSN ⊢
      have hk0 : (0 : Int) ≤ (k : Int) := by omega
      have hk1 : (k : Int) < (n : Int) := by omega
      have hk2 : (k : Int) + 1 ≤ (c : Int) := by omega
      have hk3 : (k : Int) ≤ (k : Int) + 1 := by omega
      have hck : ¬ c = k := by omega
      clear hs0 hsn hgk hb HV HS HBD hlv
      go_wp2_with fail
      refine C.out.mono ?_
      rintro e w5 ⟨rfl, hb⟩
      have HB5 := Lib.hid (HB.out.trans (((below1 wr (.cells #[.int .i64 0] 3)).trans (hb.mono (by simp))).mono HB.out.size))
      clear hb C
      go_wp2_with fail
      go_roundw
      case rel => exact ⟨k + 1, by omega, by go_num, by rw [HSN.out], HB5.out⟩
      case measure => simp [intOf]; omega
    · obtain rfl : k = n := by omega
      go_wp2_with fail
      go_ret
      exact ⟨rfl, HB.out⟩
set_option maxRecDepth 100000 in
set_option maxHeartbeats 2000000 in
theorem aloneS_any {w : World} {B : Nat} {A : Option Addr} {n : Nat} {vs : List TArrival} (c : Nat) (h : IsArrivals w B A n vs) (hm : n ≤ 1048576) (hnc : n ≤ c) (hi : Bool) (m : Int) (z : Int) (x : Bool) (hA : AloneA vs hi m z x) :
    Calls Try.prog 18 #[.slice A n c, .bool hi, .int .i64 m] w fun e w' => e = .returned (.tuple #[.int .i64 z, .bool x]) ∧ Below w.heap.size w w' := by
  have C := Lib.hid (asked_any c h hm m)
  have HI := Lib.hid h
  obtain ⟨hx, hz⟩ := hA
  obtain ⟨K, hK⟩ : ∃ K, gM vs m = K := ⟨_, rfl⟩
  rw [hK] at C hx hz
  subst hx
  have HK := Lib.hid hK
  have HZ := Lib.hid hz
  clear h hK hz
  go_enter Try.func18, Try.ntmps18
  go_wp2_with fail
  refine C.out.mono ?_
  rintro e w1 ⟨rfl, hb⟩
  have HB1 := Lib.hid hb
  clear hb C
  cases x with
  | false =>
    obtain rfl : z = 0 := HZ.out
    go_wp2_with fail
    refine bodyPost_ret (results_tmp2 rfl _ _ _) rfl ?_
    exact ⟨rfl, HB1.out⟩
  | true =>
  have HGM := Lib.hid ((gM_iff vs m).1 HK.out)
  have hn6 : n ≤ 6 := by rw [← HI.out.len]; exact HGM.out.1.1
  replace HZ : Hid (z = alS vs hi m vs.length) := Lib.hid HZ.out
  clear HK
  have CT := Lib.hid (l9Alone_any c (HI.out.below HB1.out HI.out.low) hn6 hnc HGM.out.1 hi m HGM.out.2)
  rw [HI.out.len] at HZ
  go_wp2_with fail
  refine CT.out.mono ?_
  rintro e w3 ⟨rfl, hb⟩
  have HB3 := Lib.hid (HB1.out.trans (hb.mono HB1.out.size))
  clear hb CT HB1
  go_wp2_with fail
  refine bodyPost_ret (results_tmp2 rfl _ _ _) rfl ?_
  exact ⟨by rw [HZ.out]; rfl, HB3.out⟩
set_option maxRecDepth 100000 in
set_option maxHeartbeats 4000000 in
theorem aloneI_any {w : World} {B : Nat} {A : Option Addr} {n : Nat} {vs : List TArrival} (c : Nat) (h : IsArrivals w B A n vs) (hm : n ≤ 1048576) (hi : Bool) (m : Int) (z : Int) (x : Bool) (hA : AloneA vs hi m z x) :
    Calls Try.prog 16 #[.slice A n c, .bool hi, .int .i64 m] w fun e w' => e = .returned (.tuple #[.int .i64 z, .bool x]) ∧ Below w.heap.size w w' := by
  have C : Hid (Calls Try.prog 47 #[.slice A n c, .int .i64 m] w fun e w' => e = .returned (.bool (gM vs m)) ∧ Below w.heap.size w w') := Lib.hid (canLock_any c h hm m)
  have HI := Lib.hid h
  obtain ⟨hx, hz⟩ := hA
  obtain ⟨K, hK⟩ : ∃ K, gM vs m = K := ⟨_, rfl⟩
  rw [hK] at C hx hz
  subst hx
  have HK := Lib.hid hK
  have HZ := Lib.hid hz
  clear h hK hz
  go_enter Try.func16, Try.ntmps16
  go_wp2_with fail
  refine C.out.mono ?_
  rintro e w1 ⟨rfl, hb⟩
  have HB1 := Lib.hid hb
  clear hb C
  cases x with
  | false =>
    obtain rfl : z = 0 := HZ.out
    go_wp2_with fail
    refine bodyPost_ret (results_tmp2 rfl _ _ _) rfl ?_
    exact ⟨rfl, HB1.out⟩
  | true =>
  have HGM := Lib.hid ((gM_iff vs m).1 HK.out)
  have hn6 : n ≤ 6 := by rw [← HI.out.len]; exact HGM.out.1.1
  replace HZ : Hid (z = alS vs hi m vs.length) := Lib.hid HZ.out
  clear HK
  have HBD := Lib.hid (fun k (hk : k ≤ vs.length) => alS_bd HGM.out.1 hi HGM.out.2 k hk)
  rw [HI.out.len] at HZ
  go_wp2_with fail
  go_loopw [8, 19] (fun z i wr => ∃ k : Nat, k ≤ n ∧ i = .int .i64 k ∧ z = .int .i64 (alS vs hi m k) ∧ Below w.heap.size w wr) (fun _ i _ => n - (intOf i).toNat)
  case atStart => exact ⟨0, Nat.zero_le _, rfl, rfl, HB1.out⟩
  case round =>
    clear HB1
    obtain ⟨k, hk, rfl, rfl, hb⟩ := hrel
    have HB := Lib.hid hb
    by_cases hlt : k < n
    · have hlv : k < vs.length := by rw [HI.out.len]; exact hlt
      obtain ⟨a1, rfl, hab, HV⟩ := (HI.out.below hb HI.out.low).has.Arrival (k := k) hlv
      have hgk := (HGM.out.1.2 k hlv).1
      have hsn := alS_snoc (vs := vs) hi m hlv
      have hbd := HBD.out k (by omega)
      have h1 := al1_bd hgk hi HGM.out.2
      have hd := delay_one hgk hi HGM.out.2
      generalize vs.getD k noArrival = V at HV hgk hsn h1 hd
      obtain ⟨e0, e1, e2, e3⟩ := HV
      have HSN := Lib.hid hsn
      have HD := Lib.hid hd
      have HGV := Lib.hid hgk
      obtain ⟨s0, hs0⟩ : ∃ s, alS vs hi m k = s := ⟨_, rfl⟩
      rw [hs0] at hbd HSN ⊢
      have hk0 : (0 : Int) ≤ (k : Int) := by omega
      have hk1 : (k : Int) < (n : Int) := by omega
      clear hs0 hsn hgk hb HBD hlv hd
      go_wp2_with fail
      obtain ⟨P1, P2, P3⟩ := lone_args wr V (objA V)
      have C := Lib.hid (delayI_any 1 1 P1 (by omega) P2 (by omega) (Nat.le_refl _) hi m _ true HD.out)
      have HB5 := Lib.hid (HB.out.trans (P3.mono HB.out.size))
      clear P1 P2 P3 e0 e1 e2 e3 hab
      obtain ⟨d, hd⟩ : ∃ d, al1 hi m V = d := ⟨_, rfl⟩
      rw [hd] at h1 HSN C
      clear hd
      refine C.out.mono ?_
      rintro e w5 ⟨rfl, hb⟩
      have HB6 := Lib.hid (HB5.out.trans (hb.mono HB5.out.size))
      clear hb C HB5
      go_wp2_with fail
      go_roundw
      case rel => exact ⟨k + 1, by omega, by go_num, by rw [HSN.out], HB6.out⟩
      case measure => simp [intOf]; omega
    · obtain rfl : k = n := by omega
      go_wp2_with fail
      refine bodyPost_ret (results_tmp2 rfl _ _ _) rfl ?_
      exact ⟨by rw [HZ.out]; rfl, HB.out⟩
end Go.Proofs.Ytkdolpgnaabdaaa
