/- The law WalkRefs answers true. -/
import Derived.Test.YteeghjhkfaeflaaQWkX
namespace Go.Proofs
namespace Yteeghjhkfaeflaa
open Go.RowKit

theorem slots_len (ws : List Int) (f t : Int) : (slotsF ws f t).1.length ≤ 102464 := col_len _ _ (fun x => Nat.le_trans (slt_len ws x) (by decide)) ws f t
theorem into_len (ws : List Int) (f t lo hi : Int) : (intoF ws f t lo hi).1.length ≤ 102464 := by
  unfold intoF
  split
  · simp
  · exact Nat.le_trans (in_len lo hi _) (refs_len ws f t)
set_option maxRecDepth 100000 in
set_option maxHeartbeats 2000000 in
theorem refs4_far (A : Option Addr) (n cap : Nat) (x0 x1 y0 y1 : Int) (w : World) (hf : farB n = true) :
    Calls Try.prog 4 #[.slice A n cap, .agg #[.int .i64 x0, .int .i64 x1], .agg #[.int .i64 y0, .int .i64 y1]] w fun e w' => e = .returned (.bool true) ∧ Below w.heap.size w w' := by
  have F := Lib.hid (fun W => far11 A n cap W)
  rw [hf] at F
  clear hf
  go_enter Try.func4, Try.ntmps4
  go_wp2_with (first
    | (go_at_call 11; refine (F.out _).mono ?_; rintro e w' ⟨rfl, rfl⟩)
    | (go_at_call 12; refine (awake12 _).mono ?_; rintro e w1 ⟨rfl, hb1⟩))
  exact bodyPost_ret (v := .bool true) (by simp [results, Try.f4, go_sem]) rfl ⟨rfl, below_end (below_end (alloc_below w _) (alloc_below _ _)) hb1⟩
set_option maxRecDepth 100000 in
set_option maxHeartbeats 2000000 in
theorem refs4_go (v : Value) (ws : List Int) (x0 x1 y0 y1 : Int) (w : World) (h : Ar w v ws) (hf : farB ws.length = false) :
    Calls Try.prog 4 #[v, .agg #[.int .i64 x0, .int .i64 x1], .agg #[.int .i64 y0, .int .i64 y1]] w fun e w' => e = .returned (.bool true) ∧ Below w.heap.size w w' := by
  have F22 := Lib.hid (fun W (hb : Below w.heap.size w W) => (slots22 v ws x0 x1 W (h.below hb)).mono fun e w' h => h.own2)
  have F23 := Lib.hid (fun W (hb : Below w.heap.size w W) => (rslots23 v ws x0 x1 W (h.below hb)).mono fun e w' h => h.own2)
  have F24 := Lib.hid (fun W (hb : Below w.heap.size w W) => (refs24 v ws x0 x1 W (h.below hb)).mono fun e w' h => h.own2)
  have F25 := Lib.hid (fun W (hb : Below w.heap.size w W) => (rrefs25 v ws x0 x1 W (h.below hb)).mono fun e w' h => h.own2)
  have F27 := Lib.hid (fun W (hb : Below w.heap.size w W) => (into27 v ws x0 x1 y0 y1 W (h.below hb)).mono fun e w' h => h.own2)
  have F28 := Lib.hid (fun W (hb : Below w.heap.size w W) => (rinto28 v ws x0 x1 y0 y1 W (h.below hb)).mono fun e w' h => h.own2)
  have L1 := Lib.hid (Nat.le_trans (slots_len ws x0 x1) (show 102464 ≤ 1000000 by omega))
  have L2 := Lib.hid (Nat.le_trans (refs_len ws x0 x1) (show 102464 ≤ 1000000 by omega))
  have L3 := Lib.hid (Nat.le_trans (into_len ws x0 x1 y0 y1) (show 102464 ≤ 1000000 by omega))
  obtain ⟨A, cap, rfl, -, -⟩ := h.open
  have F := Lib.hid (fun W => far11 A ws.length cap W)
  rw [hf] at F
  clear h hf
  generalize slotsF ws x0 x1 = R1 at *
  generalize refsF ws x0 x1 = R2 at *
  generalize intoF ws x0 x1 y0 y1 = R3 at *
  generalize ws.length = lx at *
  obtain ⟨l1, e1⟩ := R1
  obtain ⟨l2, e2⟩ := R2
  obtain ⟨l3, e3⟩ := R3
  dsimp only at F22 F23 F24 F25 F27 F28 L1 L2 L3
  have n1 : (e1 != e1) = false := by simp
  have n2 : (e2 != e2) = false := by simp
  have n3 : (e3 == e3) = true := by simp
  have N0 := Lib.hid (keep_heap (alloc_below _ (.cells #[.int .i64 y0, .int .i64 y1] 23)) (heap_alloc_new w (.cells #[.int .i64 x0, .int .i64 x1] 23)))
  have M0 := Lib.hid (heap_alloc_new (w.alloc (.cells #[.int .i64 x0, .int .i64 x1] 23)) (.cells #[.int .i64 y0, .int .i64 y1] 23))
  have B0 := Lib.hid (below_end (alloc_below w (.cells #[.int .i64 x0, .int .i64 x1] 23)) (alloc_below _ (.cells #[.int .i64 y0, .int .i64 y1] 23)))
  simp only [World.size_alloc] at M0
  go_enter Try.func4, Try.ntmps4
  go_upto_region 1 with (fail)
  generalize (w.alloc (.cells #[.int .i64 x0, .int .i64 x1] 23)).alloc (.cells #[.int .i64 y0, .int .i64 y1] 23) = W0 at *
  obtain ⟨t00, t01, -, -⟩ := two_free N0.out
  obtain ⟨t10, t11, -, -⟩ := two_free M0.out
  go_upto_region 4 with (first | (go_at_call 11; refine (F.out _).mono ?_; rintro e w' ⟨rfl, rfl⟩) | (go_at_call 22; refine (F22.out _ B0.out).mono ?_; rintro e w1 ⟨v1, rfl, X1, hb1⟩))
  clear t00 t01 t10 t11
  have N01 := Lib.hid (keep_heap hb1 N0.out)
  clear N0
  have N11 := Lib.hid (keep_heap hb1 M0.out)
  clear M0
  have B1 := Lib.hid (below_end B0.out hb1)
  clear B0 hb1
  obtain ⟨t00, t01, -, -⟩ := two_free N01.out
  obtain ⟨t10, t11, -, -⟩ := two_free N11.out
  go_upto_region 5 with (go_at_call 23; refine (F23.out _ B1.out).mono ?_; rintro e w2 ⟨v2, rfl, X2, hb2⟩)
  clear t00 t01 t10 t11
  have N02 := Lib.hid (keep_heap hb2 N01.out)
  clear N01
  have N12 := Lib.hid (keep_heap hb2 N11.out)
  clear N11
  have X1n := Lib.hid (X1.out.below hb2)
  clear X1
  have X1 := X1n
  clear X1n
  have B2 := Lib.hid (below_end B1.out hb2)
  clear B1 hb2
  obtain ⟨t00, t01, -, -⟩ := two_free N02.out
  obtain ⟨t10, t11, -, -⟩ := two_free N12.out
  go_upto_region 6 with (go_at_call 24; refine (F24.out _ B2.out).mono ?_; rintro e w3 ⟨v3, rfl, X3, hb3⟩)
  clear t00 t01 t10 t11
  have N03 := Lib.hid (keep_heap hb3 N02.out)
  clear N02
  have N13 := Lib.hid (keep_heap hb3 N12.out)
  clear N12
  have X1n := Lib.hid (X1.out.below hb3)
  clear X1
  have X1 := X1n
  clear X1n
  have X2n := Lib.hid (X2.out.below hb3)
  clear X2
  have X2 := X2n
  clear X2n
  have B3 := Lib.hid (below_end B2.out hb3)
  clear B2 hb3
  obtain ⟨t00, t01, -, -⟩ := two_free N03.out
  obtain ⟨t10, t11, -, -⟩ := two_free N13.out
  go_upto_region 7 with (go_at_call 25; refine (F25.out _ B3.out).mono ?_; rintro e w4 ⟨v4, rfl, X4, hb4⟩)
  clear t00 t01 t10 t11
  have N04 := Lib.hid (keep_heap hb4 N03.out)
  clear N03
  have N14 := Lib.hid (keep_heap hb4 N13.out)
  clear N13
  have X1n := Lib.hid (X1.out.below hb4)
  clear X1
  have X1 := X1n
  clear X1n
  have X2n := Lib.hid (X2.out.below hb4)
  clear X2
  have X2 := X2n
  clear X2n
  have X3n := Lib.hid (X3.out.below hb4)
  clear X3
  have X3 := X3n
  clear X3n
  have B4 := Lib.hid (below_end B3.out hb4)
  clear B3 hb4
  obtain ⟨t00, t01, -, -⟩ := two_free N04.out
  obtain ⟨t10, t11, -, -⟩ := two_free N14.out
  have S := Lib.hid (I21 l1 v1 v2 w4 L1.out X1.out X2.out)
  have S2 := Lib.hid (fun W (hb : Below w4.heap.size w4 W) => rsame26 l2 v3 v4 W L2.out (X3.out.below hb) (X4.out.below hb))
  go_upto_region 9 with (first | (go_at_call 17; refine S.out.mono ?_; rintro e w5 ⟨rfl, hb5⟩) | (go_at_call 26; refine (S2.out _ hb5).mono ?_; rintro e w6 ⟨rfl, hb6⟩))
  have hb7 := below_end hb5 hb6
  clear X1 X2 X3 X4 hb5 hb6
  clear t00 t01 t10 t11
  have N07 := Lib.hid (keep_heap hb7 N04.out)
  clear N04
  have N17 := Lib.hid (keep_heap hb7 N14.out)
  clear N14
  have B7 := Lib.hid (below_end B4.out hb7)
  clear B4 hb7
  obtain ⟨t00, t01, -, -⟩ := two_free N07.out
  obtain ⟨t10, t11, -, -⟩ := two_free N17.out
  go_upto_region 10 with (go_at_call 27; refine (F27.out _ B7.out).mono ?_; rintro e w8 ⟨v8, rfl, X5, hb8⟩)
  clear t00 t01 t10 t11
  have N08 := Lib.hid (keep_heap hb8 N07.out)
  clear N07
  have N18 := Lib.hid (keep_heap hb8 N17.out)
  clear N17
  have B8 := Lib.hid (below_end B7.out hb8)
  clear B7 hb8
  obtain ⟨t00, t01, -, -⟩ := two_free N08.out
  obtain ⟨t10, t11, -, -⟩ := two_free N18.out
  go_upto_region 11 with (go_at_call 28; refine (F28.out _ B8.out).mono ?_; rintro e w9 ⟨v9, rfl, X6, hb9⟩)
  clear t00 t01 t10 t11
  have N09 := Lib.hid (keep_heap hb9 N08.out)
  clear N08
  have N19 := Lib.hid (keep_heap hb9 N18.out)
  clear N18
  have X5n := Lib.hid (X5.out.below hb9)
  clear X5
  have X5 := X5n
  clear X5n
  have B9 := Lib.hid (below_end B8.out hb9)
  clear B8 hb9
  obtain ⟨t00, t01, -, -⟩ := two_free N09.out
  obtain ⟨t10, t11, -, -⟩ := two_free N19.out
  have S3 := Lib.hid (I21 l3 v8 v9 w9 L3.out X5.out X6.out)
  go_wp2_with (first | (go_at_call 17; refine S3.out.mono ?_; rintro e w10 ⟨rfl, hb10⟩) | (go_at_call 12; refine (awake12 _).mono ?_; rintro e w12 ⟨rfl, hb12⟩))
  exact bodyPost_ret (v := .bool true) (by simp [results, Try.f4, go_sem]) rfl ⟨rfl, below_end (below_end B9.out hb10) hb12⟩
theorem refs4 (v : Value) (ws : List Int) (x0 x1 y0 y1 : Int) (w : World) (h : Ar w v ws) :
    Calls Try.prog 4 #[v, .agg #[.int .i64 x0, .int .i64 x1], .agg #[.int .i64 y0, .int .i64 y1]] w fun e w' => e = .returned (.bool true) ∧ Below w.heap.size w w' := by
  cases hf : farB ws.length with
  | true =>
    obtain ⟨A, cap, rfl, -, -⟩ := h.open
    exact refs4_far A ws.length cap x0 x1 y0 y1 w hf
  | false => exact refs4_go v ws x0 x1 y0 y1 w h hf
end Yteeghjhkfaeflaa
end Go.Proofs
