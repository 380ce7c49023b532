/- Chapter 2: a reach and a place of a waterway, as the laws draw them. -/
import Derived.Test.YtgnopkemcgbedabPlB
import Derived.Test.YtgnopkemcgbedabWayTotal
namespace Go.Proofs.Ytgnopkemcgbedab
open Go.RowKit Go.PlainAid Go.Sort
set_option linter.unusedVariables false
set_option linter.unusedSimpArgs false

theorem l1Most_anyP (x y : Int) (w : World) : Calls Try.prog 61 #[.int .i64 x, .int .i64 y] w fun e w' => e = .returned (.int .i64 (max x y)) ∧ w = w' := by
  by_cases h : x > y
  · rw [show max x y = x by omega]
    go_enter Try.func61, Try.ntmps61
    go_wp2
    go_ret
    exact ⟨rfl, rfl⟩
  · rw [show max x y = y by omega]
    go_enter Try.func61, Try.ntmps61
    go_wp2
    go_ret
    exact ⟨rfl, rfl⟩
theorem memS {l : List Int} {z b : Int} (h : z ∈ l) (hl : ∀ x ∈ l, -1 ≤ x ∧ x ≤ b) : -1 ≤ z ∧ z ≤ b := hl z h
theorem mem_two {z a b k : Int} (h : z ∈ [a, b]) (ha : -1 ≤ a ∧ a ≤ k) (hb : -1 ≤ b ∧ b ≤ k) : -1 ≤ z ∧ z ≤ k := by
  simp only [List.mem_cons, List.not_mem_nil, or_false] at h
  rcases h with rfl | rfl
  · exact ha
  · exact hb
theorem mem_four {z a b c d k : Int} (h : z ∈ [a, b, c, d]) (ha : -1 ≤ a ∧ a ≤ k) (hb : -1 ≤ b ∧ b ≤ k) (hc : -1 ≤ c ∧ c ≤ k) (hd : -1 ≤ d ∧ d ≤ k) : -1 ≤ z ∧ z ≤ k := by
  simp only [List.mem_cons, List.not_mem_nil, or_false] at h
  rcases h with rfl | rfl | rfl | rfl
  · exact ha
  · exact hb
  · exact hc
  · exact hd
/-- What a draw of a number hands back. -/
def GivesNm (k : Int) (w : World) (g : Nat) (A : Option Addr) (n c : Nat) (p : Int) (e : Ending) (w' : World) : Prop :=
  ∃ z : Int, (-1 ≤ z ∧ z ≤ k) ∧ e = .returned (.int .i64 z) ∧ CurStep w w' g A n c p 10
set_option maxHeartbeats 2000000 in
theorem reachOf_at {g : Nat} {A : Option Addr} {n c : Nat} {p : Int} {zs : List Int} {B : Nat} {w : World} (h : CurAt w g A n c p zs B) (hp : p ≤ 800000000) (A1 A2 : Option Addr) (nR c1 nZ c2 : Nat) (hn : nR ≤ 1000) :
    Calls Try.prog 63 #[.pointer (some ⟨g, 0, none⟩), .agg #[.slice A1 nR c1, .slice A2 nZ c2]] w (GivesNm 1000 w g A n c p) := by
  have H := Lib.hid h
  have hgl := h.lt
  have hp0 := h.p0
  have S1 := Lib.hid ((CurStep.refl h.cur).alloc (wayO (.slice A1 nR c1) (.slice A2 nZ c2)))
  have hgb : w.heap.size ≠ g := by omega
  have HBX := Lib.hid (heap_alloc_new w (wayO (.slice A1 nR c1) (.slice A2 nZ c2)))
  clear h
  go_enter Try.func63, Try.ntmps63
  go_wp2_with fail
  obtain ⟨r5, r50, r51, H5⟩ := S1.out.at H.out
  refine (one_at H5 (by omega) 12 (by omega)).mono ?_
  rintro e w1 ⟨y, rfl, hs⟩
  have C0 := cell_of_row _ _ 0 _ _ _ ((hs.grown.block w.heap.size (by simp) (fun e => by injection e; omega)).trans HBX.out)
  have S2 := Lib.hid (S1.out.then hs r50 r51)
  clear hs S1 H5 r50 r51 HBX
  obtain ⟨r5, r50, r51, H5⟩ := S2.out.at H.out
  cases y with
  | true =>
    go_wp2_with fail
    refine (among_new H5 (by omega) [-1, (nR : Int)] 2 rfl (by omega) (by omega) w1.heap.size rfl).mono ?_
    rintro e w2 ⟨z, hz, rfl, hs⟩
    have HZ := Lib.hid (mem_two hz (k := 1000) (by omega) (by omega))
    have S3 := Lib.hid (S2.out.then hs r50 r51)
    clear hs S2 H5 r50 r51 C0 hz
    go_wp2_with fail
    refine bodyPost_ret (results_tmp rfl _ _ _) rfl ?_
    exact ⟨z, HZ.out, rfl, S3.out.mono (by omega)⟩
  | false =>
    go_wp2_with fail
    refine (l1Most_anyP 1 (nR : Int) _).mono ?_
    rintro e w2 ⟨rfl, rfl⟩
    go_wp2_with fail
    refine (pick_at H5 (by omega) _ (by omega)).mono ?_
    rintro e w2 ⟨z, hz0, hz1, rfl, hs⟩
    have HZ : Hid (-1 ≤ z ∧ z ≤ 1000) := Lib.hid (by omega)
    have S3 := Lib.hid (S2.out.then hs r50 r51)
    clear hs S2 H5 r50 r51 C0 hz0 hz1
    go_wp2_with fail
    refine bodyPost_ret (results_tmp rfl _ _ _) rfl ?_
    exact ⟨z, HZ.out, rfl, S3.out.mono (by omega)⟩
theorem tot_okR {R : List (Int × Int × Int)} {nR : Nat} (h : okR R) (hl : R.length = nR) (hn : nR ≤ 1000) : 0 ≤ tot R nR ∧ tot R nR ≤ 1000000 := by
  have := tot_bd R (fun r hr => by have := h r hr; omega) nR (by omega)
  omega
set_option maxHeartbeats 2000000 in
theorem placeOf_at {g : Nat} {A : Option Addr} {n c : Nat} {p : Int} {zs : List Int} {B : Nat} {w : World} (h : CurAt w g A n c p zs B) (hp : p ≤ 800000000) (A1 A2 : Option Addr) (nR c1 nZ c2 B1 : Nat) (hn : nR ≤ 1000) (R : List (Int × Int × Int)) (hl : R.length = nR) (hok : okR R) (hB : B1 ≤ w.heap.size) (hr : Has w B1 A1 (flat R)) :
    Calls Try.prog 50 #[.pointer (some ⟨g, 0, none⟩), .agg #[.slice A1 nR c1, .slice A2 nZ c2]] w (GivesNm 2000000 w g A n c p) := by
  have H := Lib.hid h
  have hgl := h.lt
  have hp0 := h.p0
  have S1 := Lib.hid ((CurStep.refl h.cur).alloc (wayO (.slice A1 nR c1) (.slice A2 nZ c2)))
  have hgb : w.heap.size ≠ g := by omega
  have T := Lib.hid (l2Total_any A1 A2 nR c1 nZ c2 B1 R (w.alloc (wayO (.slice A1 nR c1) (.slice A2 nZ c2))) hl hn (fun r hr => by have := hok r hr; omega) (by simp; omega) (hr.below ((below1x w _).mono hB)))
  have ht := tot_okR hok hl hn
  generalize tot R nR = t at T ht
  clear h hr hok hl
  go_enter Try.func50, Try.ntmps50
  go_wp2_with fail
  refine T.out.mono ?_
  rintro e w1 ⟨rfl, hb⟩
  have S2 := Lib.hid (S1.out.on hb)
  clear hb T S1
  obtain ⟨r5, r50, r51, H5⟩ := S2.out.at H.out
  go_wp2_with fail
  refine (one_at H5 (by omega) 8 (by omega)).mono ?_
  rintro e w1 ⟨y, rfl, hs⟩
  have S3 := Lib.hid (S2.out.then hs r50 r51)
  clear hs S2 H5 r50 r51
  obtain ⟨r5, r50, r51, H5⟩ := S3.out.at H.out
  cases y with
  | true =>
    go_wp2_with fail
    refine (among_new H5 (by omega) [-1, 0, t, t + 1] 4 rfl (by omega) (by omega) w1.heap.size rfl).mono ?_
    rintro e w2 ⟨z, hz, rfl, hs⟩
    have HZ := Lib.hid (mem_four hz (k := 2000000) (by omega) (by omega) (by omega) (by omega))
    have S4 := Lib.hid (S3.out.then hs r50 r51)
    clear hs S3 H5 r50 r51 hz
    go_wp2_with fail
    refine bodyPost_ret (results_tmp rfl _ _ _) rfl ?_
    exact ⟨z, HZ.out, rfl, S4.out.mono (by omega)⟩
  | false =>
    go_wp2_with fail
    refine (l1Most_anyP 1 t _).mono ?_
    rintro e w2 ⟨rfl, rfl⟩
    go_wp2_with fail
    refine (pick_at H5 (by omega) _ (by omega)).mono ?_
    rintro e w2 ⟨z, hz0, hz1, rfl, hs⟩
    have HZ : Hid (-1 ≤ z ∧ z ≤ 2000000) := Lib.hid (by omega)
    have S4 := Lib.hid (S3.out.then hs r50 r51)
    clear hs S3 H5 r50 r51 hz0 hz1
    go_wp2_with fail
    refine bodyPost_ret (results_tmp rfl _ _ _) rfl ?_
    exact ⟨z, HZ.out, rfl, S4.out.mono (by omega)⟩
end Go.Proofs.Ytgnopkemcgbedab
