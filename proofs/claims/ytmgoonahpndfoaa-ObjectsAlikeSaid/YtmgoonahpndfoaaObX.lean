/- The laws ObjectsMakes, ObjectsReads and ObjectsSets answer true. -/
import Derived.Test.YtmgoonahpndfoaaObW
namespace Go.Proofs
namespace Ytmgoonahpndfoaa
open Go.RowKit

theorem S14 (xs : List Int) (v1 v2 : Value) (W : World) (hm : xs.length ≤ 1000000) (h1 : WAt W v1 xs) (h2 : WAt W v2 xs) : Calls Try.prog 14 #[v1, v2] W fun e w' => e = .returned (.bool true) ∧ Below W.heap.size W w' :=
  (same14 v1 v2 xs xs hm W h1 h2).mono (fun _ _ q => ⟨by rw [q.1, decide_eq_true rfl], q.2⟩)
theorem mak_len (ws : List Int) (a P R : Int) : (makF ws a P R).1.length ≤ ws.length := by
  unfold makF
  split
  · simp
  · split
    · simp
    · split
      · rename_i h
        obtain ⟨p1, p2, p3, p4⟩ := partB_spec.1 h
        dsimp only
        rw [List.length_set]
        exact Nat.le_of_eq (zeroL_length (by omega))
      · simp
theorem wr_len (ws : List Int) (k n : Nat) (f z : Int) : (wrF ws k n f z).1.length ≤ ws.length := by
  unfold wrF; split
  · simp
  · simp
theorem st_len (ws : List Int) (k n : Nat) (f z : Int) : (stF ws k n f z).1.length ≤ ws.length := by
  unfold stF; split
  · split
    · simp
    · simp
  · simp
theorem sp_len (ws : List Int) (a f z : Int) : (spF ws a f z).1.length ≤ ws.length := by
  unfold spF; split
  · exact st_len _ _ _ _ _
  · simp
theorem sr_len (ws : List Int) (a f z : Int) : (srF ws a f z).1.length ≤ ws.length := by
  unfold srF; split
  · exact wr_len _ _ _ _ _
  · simp
theorem obj_len (ws : List Int) (a : Int) : (objF ws a).1.toNat ≤ 63 := by
  rcases obj_cases ws a with ⟨E, hE, e⟩ | ⟨k, P, R, rfl, ho⟩
  · rw [e]; show (0 : Int).toNat ≤ 63; decide
  · rw [ho.is]; have := ho.sum; simp; omega
theorem slt_len (ws : List Int) (a : Int) : (sltF ws a).1.length ≤ 63 := by
  unfold sltF; split
  · dsimp only; rw [upL_length]; exact obj_len ws a
  · simp
theorem adrs_len (l : List Int) : (adrsF l).1.length ≤ l.length := by
  unfold adrsF
  by_cases h : l.all (fun z => decide (z ≤ 1600)) = true
  · rw [if_pos h]; exact Nat.le_refl _
  · rw [if_neg h]; exact Nat.zero_le _
theorem ptrs_len (ws : List Int) (a : Int) : (ptrsF ws a).1.length ≤ 63 := by
  unfold ptrsF; split
  · refine Nat.le_trans (adrs_len _) ?_
    have := obj_len ws a
    simp only [part, List.length_take]; omega
  · simp
theorem CAns.own {W : World} {zs : List Int} {E : Int} {e : Ending} {w' : World} (h : CAns W (zs, E) e w') : ∃ v, e = .returned (.tuple #[v, .int .i64 E]) ∧ Hid (WAt w' v zs) ∧ Below W.heap.size W w' := by
  obtain ⟨v, h1, h2, h3⟩ := h
  exact ⟨v, h1, Lib.hid (WAt.of_own h2), h3⟩
theorem IAns.own {W : World} {zs : List Int} {E : Int} {e : Ending} {w' : World} (h : IAns W (zs, E) e w') : ∃ v, e = .returned (.tuple #[v, .int .i64 E]) ∧ Hid (IAt w' v zs) ∧ Below W.heap.size W w' := by
  obtain ⟨v, h1, h2, h3⟩ := h
  exact ⟨v, h1, Lib.hid (IAt.of_own h2), h3⟩

set_option maxRecDepth 100000 in
set_option maxHeartbeats 2000000 in
theorem makes3_far (A : Option Addr) (n cap : Nat) (a P R : Int) (w : World) (hn : n ≤ 9223372036854775807) (hf : (300 < n ∧ n ≤ 1601) ∨ 1610 < n) :
    Calls Try.prog 3 #[.slice A n cap, .int .i64 a, .agg #[.int .i64 P, .int .i64 R]] w fun e w' => e = .returned (.bool true) ∧ Below w.heap.size w w' := by
  have F := Lib.hid (fun W => far10 A n cap W hn)
  rw [decide_eq_true hf] at F
  clear hf
  go_enter Try.func3, Try.ntmps3
  go_wp2_with (first
    | (go_at_call 10; refine (F.out _).mono ?_; rintro e w' ⟨rfl, rfl⟩)
    | (go_at_call 11; refine (awake11 _).mono ?_; rintro e w1 ⟨rfl, hb1⟩))
  exact bodyPost_ret (v := .bool true) (by simp [results, Try.f3, go_sem]) rfl ⟨rfl, below_end (alloc_below w _) hb1⟩
set_option maxRecDepth 100000 in
set_option maxHeartbeats 2000000 in
theorem makes3_go (v : Value) (ws : List Int) (a P R : Int) (w : World) (h : Ar w v ws) (hP : Hd.SI P) (hR : Hd.SI R) (hf : ¬ ((300 < ws.length ∧ ws.length ≤ 1601) ∨ 1610 < ws.length)) :
    Calls Try.prog 3 #[v, .int .i64 a, .agg #[.int .i64 P, .int .i64 R]] w fun e w' => e = .returned (.bool true) ∧ Below w.heap.size w w' := by
  have F12 := Lib.hid (fun W (hb : Below w.heap.size w W) => make12 v ws a P R W (h.below hb) hP hR)
  have F13 := Lib.hid (fun W (hb : Below w.heap.size w W) => rmake13 v ws a P R W (h.below hb) hP hR)
  have F15 := Lib.hid (fun W (hb : Below w.heap.size w W) => shape15 v ws a W (h.below hb))
  have F16 := Lib.hid (fun W (hb : Below w.heap.size w W) => rshape16 v ws a W (h.below hb))
  have F17 := Lib.hid (fun W (hb : Below w.heap.size w W) => size17 v ws a W (h.below hb))
  have F18 := Lib.hid (fun W (hb : Below w.heap.size w W) => rsize18 v ws a W (h.below hb))
  have F19 := Lib.hid (fun W (hb : Below w.heap.size w W) => slots19 v ws a W (h.below hb))
  have F20 := Lib.hid (fun W (hb : Below w.heap.size w W) => rslots20 v ws a W (h.below hb))
  have L1 := Lib.hid (Nat.le_trans (mak_len ws a P R) (show ws.length ≤ 1000000 by omega))
  have L2 := Lib.hid (Nat.le_trans (slt_len ws a) (show 63 ≤ 1000000 by omega))
  obtain ⟨A, cap, rfl, -, -⟩ := h.open
  have F := Lib.hid (fun W => far10 A ws.length cap W (by omega))
  rw [decide_eq_false hf] at F
  clear h hP hR hf
  generalize makF ws a P R = R1 at *
  generalize objF ws a = R2 at *
  generalize sizF ws a = R3 at *
  generalize sltF ws a = R4 at *
  generalize ws.length = lx at *
  obtain ⟨r1, e1⟩ := R1
  obtain ⟨p2, r2, e2⟩ := R2
  obtain ⟨s3, e3⟩ := R3
  obtain ⟨r4, e4⟩ := R4
  dsimp only at F15 F16 F17 F18 L1 L2
  have n1 : (e1 != e1) = false := by simp
  have n2 : (e2 != e2) = false := by simp
  have n3 : (e3 != e3) = false := by simp
  have n4 : (e4 == e4) = true := by simp
  have n5 : (s3 != s3) = false := by simp
  have EQ := fun W => Hd.neq23 p2 r2 p2 r2 W
  rw [Hd.same_refl] at EQ
  have N0 := Lib.hid (heap_alloc_new w (.cells #[.int .i64 P, .int .i64 R] 24))
  have B0 := Lib.hid (alloc_below w (.cells #[.int .i64 P, .int .i64 R] 24))
  obtain ⟨t0, t1, -, -⟩ := two_free N0.out
  go_enter Try.func3, Try.ntmps3
  go_upto_region 1 with (fail)
  generalize w.alloc (.cells #[.int .i64 P, .int .i64 R] 24) = W0 at *
  go_upto_region 4 with (first
    | (go_at_call 10; refine (F.out _).mono ?_; rintro e w' ⟨rfl, rfl⟩)
    | (go_at_call 12; refine (F12.out _ B0.out).mono ?_; intro e w1 q; obtain ⟨v1, rfl, X1, hb1⟩ := CAns.own q; clear q))
  have B1 := Lib.hid (below_end B0.out hb1)
  clear t0 t1
  obtain ⟨t0, t1, -, -⟩ := two_free (keep_heap hb1 N0.out)
  clear hb1
  go_upto_region 5 with (go_at_call 13; refine (F13.out _ B1.out).mono ?_; intro e w2 q; obtain ⟨v2, rfl, X2, hb2⟩ := CAns.own q; clear q)
  have B2 := Lib.hid (below_end B1.out hb2)
  have S := Lib.hid (S14 r1 v1 v2 w2 L1.out (X1.out.below hb2) X2.out)
  clear t0 t1 hb2
  go_upto_region 7 with (go_at_call 14; refine S.out.mono ?_; rintro e w3 ⟨rfl, hb3⟩)
  have B3 := Lib.hid (below_end B2.out hb3)
  clear hb3 S
  go_upto_region 8 with (go_at_call 15; refine (F15.out _ B3.out).mono ?_; rintro e w4 ⟨rfl, hb4⟩)
  have M0 := Lib.hid (heap_alloc_new w4 (.cells #[.int .i64 p2, .int .i64 r2] 24))
  have B4 := Lib.hid (below_end B3.out (below_end hb4 (alloc_below w4 (.cells #[.int .i64 p2, .int .i64 r2] 24))))
  clear hb4
  generalize w4.heap.size = g4 at *
  generalize w4.alloc (.cells #[.int .i64 p2, .int .i64 r2] 24) = W4 at *
  go_upto_region 9 with (go_at_call 16; refine (F16.out _ B4.out).mono ?_; rintro e w5 ⟨rfl, hb5⟩)
  have M1 := Lib.hid (heap_alloc_new w5 (.cells #[.int .i64 p2, .int .i64 r2] 24))
  have hb := alloc_below w5 (.cells #[.int .i64 p2, .int .i64 r2] 24)
  have M0' := Lib.hid (keep_heap hb (keep_heap hb5 M0.out))
  have B5 := Lib.hid (below_end B4.out (below_end hb5 hb))
  clear hb5 hb M0
  generalize w5.heap.size = g5 at *
  generalize w5.alloc (.cells #[.int .i64 p2, .int .i64 r2] 24) = W5 at *
  go_upto_region 10 with (go_at_call 17; refine (F17.out _ B5.out).mono ?_; rintro e w6 ⟨rfl, hb6⟩)
  have B6 := Lib.hid (below_end B5.out hb6)
  go_upto_region 11 with (go_at_call 18; refine (F18.out _ B6.out).mono ?_; rintro e w7 ⟨rfl, hb7⟩)
  have B7 := Lib.hid (below_end B6.out hb7)
  obtain ⟨s0, s1, -, -⟩ := two_free (keep_heap hb7 (keep_heap hb6 M0'.out))
  obtain ⟨u0, u1, -, -⟩ := two_free (keep_heap hb7 (keep_heap hb6 M1.out))
  clear hb6 hb7
  go_upto_region 13 with (fail)
  clear s0 s1 u0 u1 EQ
  go_upto_region 14 with (go_at_call 19; refine (F19.out _ B7.out).mono ?_; intro e w8 q; obtain ⟨v8, rfl, X8, hb8⟩ := IAns.own q; clear q)
  have B8 := Lib.hid (below_end B7.out hb8)
  clear hb8
  go_upto_region 15 with (go_at_call 20; refine (F20.out _ B8.out).mono ?_; intro e w9 q; obtain ⟨v9, rfl, X9, hb9⟩ := IAns.own q; clear q)
  have B9 := Lib.hid (below_end B8.out hb9)
  have S := Lib.hid (I21 r4 v8 v9 w9 L2.out (X8.out.below hb9) X9.out)
  clear hb9
  go_wp2_with (first
    | (go_at_call 21; refine S.out.mono ?_; rintro e y1 ⟨rfl, hy1⟩)
    | (go_at_call 11; refine (awake11 _).mono ?_; rintro e y2 ⟨rfl, hy2⟩))
  exact bodyPost_ret (v := .bool true) (by simp [results, Try.f3, go_sem]) rfl ⟨rfl, below_end (below_end B9.out hy1) hy2⟩
theorem makes3 (v : Value) (ws : List Int) (a P R : Int) (w : World) (h : Ar w v ws) (hP : Hd.SI P) (hR : Hd.SI R) :
    Calls Try.prog 3 #[v, .int .i64 a, .agg #[.int .i64 P, .int .i64 R]] w fun e w' => e = .returned (.bool true) ∧ Below w.heap.size w w' := by
  by_cases hf : (300 < ws.length ∧ ws.length ≤ 1601) ∨ 1610 < ws.length
  · obtain ⟨A, cap, rfl, -, -⟩ := h.open
    exact makes3_far A ws.length cap a P R w h.len hf
  · exact makes3_go v ws a P R w h hP hR hf
set_option maxRecDepth 100000 in
set_option maxHeartbeats 2000000 in
theorem reads4_far (A : Option Addr) (n cap : Nat) (a x0 x1 : Int) (w : World) (hn : n ≤ 9223372036854775807) (hf : (300 < n ∧ n ≤ 1601) ∨ 1610 < n) :
    Calls Try.prog 4 #[.slice A n cap, .int .i64 a, .agg #[.int .i64 x0, .int .i64 x1]] w fun e w' => e = .returned (.bool true) ∧ Below w.heap.size w w' := by
  have F := Lib.hid (fun W => far10 A n cap W hn)
  rw [decide_eq_true hf] at F
  clear hf
  go_enter Try.func4, Try.ntmps4
  go_wp2_with (first
    | (go_at_call 10; refine (F.out _).mono ?_; rintro e w' ⟨rfl, rfl⟩)
    | (go_at_call 11; refine (awake11 _).mono ?_; rintro e w1 ⟨rfl, hb1⟩))
  exact bodyPost_ret (v := .bool true) (by simp [results, Try.f4, go_sem]) rfl ⟨rfl, below_end (alloc_below w _) hb1⟩
set_option maxRecDepth 100000 in
set_option maxHeartbeats 2000000 in
theorem reads4_go (v : Value) (ws : List Int) (a x0 x1 : Int) (w : World) (h : Ar w v ws) (hf : ¬ ((300 < ws.length ∧ ws.length ≤ 1601) ∨ 1610 < ws.length)) :
    Calls Try.prog 4 #[v, .int .i64 a, .agg #[.int .i64 x0, .int .i64 x1]] w fun e w' => e = .returned (.bool true) ∧ Below w.heap.size w w' := by
  have F22 := Lib.hid (fun W (hb : Below w.heap.size w W) => pointer22 v ws a x0 W (h.below hb))
  have F23 := Lib.hid (fun W (hb : Below w.heap.size w W) => rpointer23 v ws a x0 W (h.below hb))
  have F24 := Lib.hid (fun W (hb : Below w.heap.size w W) => raw24 v ws a x0 W (h.below hb))
  have F25 := Lib.hid (fun W (hb : Below w.heap.size w W) => rraw25 v ws a x0 W (h.below hb))
  have F26 := Lib.hid (fun W (hb : Below w.heap.size w W) => pointers26 v ws a W (h.below hb))
  have F27 := Lib.hid (fun W (hb : Below w.heap.size w W) => rpointers27 v ws a W (h.below hb))
  have F28 := Lib.hid (fun W (hb : Below w.heap.size w W) => alike28 v ws a x1 W (h.below hb))
  have F29 := Lib.hid (fun W (hb : Below w.heap.size w W) => ralike29 v ws a x1 W (h.below hb))
  have L2 := Lib.hid (Nat.le_trans (ptrs_len ws a) (show 63 ≤ 1000000 by omega))
  obtain ⟨A, cap, rfl, -, -⟩ := h.open
  have F := Lib.hid (fun W => far10 A ws.length cap W (by omega))
  rw [decide_eq_false hf] at F
  clear h hf
  generalize ptrF ws a x0 = R1 at *
  generalize rawF ws a x0 = R2 at *
  generalize ptrsF ws a = R3 at *
  generalize alkF ws a x1 = R4 at *
  generalize ws.length = lx at *
  obtain ⟨r1, e1⟩ := R1
  obtain ⟨r2, e2⟩ := R2
  obtain ⟨r3, e3⟩ := R3
  obtain ⟨r4, e4⟩ := R4
  dsimp only at F22 F23 F24 F25 F28 F29 L2
  have n1 : (e1 != e1) = false := by simp
  have n2 : (e2 != e2) = false := by simp
  have n3 : (e3 == e3) = true := by simp
  have n4 : (e4 == e4) = true := by simp
  have n5 : (r1 != r1) = false := by simp
  have n6 : (r2 != r2) = false := by simp
  have n7 : (r4 == r4) = true := by simp
  have N0 := Lib.hid (heap_alloc_new w (.cells #[.int .i64 x0, .int .i64 x1] 40))
  have B0 := Lib.hid (alloc_below w (.cells #[.int .i64 x0, .int .i64 x1] 40))
  obtain ⟨t0, t1, -, -⟩ := two_free N0.out
  go_enter Try.func4, Try.ntmps4
  go_upto_region 1 with (fail)
  generalize w.alloc (.cells #[.int .i64 x0, .int .i64 x1] 40) = W0 at *
  go_upto_region 3 with (go_at_call 10; refine (F.out _).mono ?_; rintro e w' ⟨rfl, rfl⟩)
  go_upto_region 4 with (go_at_call 22; refine (F22.out _ B0.out).mono ?_; rintro e w1 ⟨rfl, hb1⟩)
  have B1 := Lib.hid (below_end B0.out hb1)
  have N1 := Lib.hid (keep_heap hb1 N0.out)
  clear t0 t1
  obtain ⟨t0, t1, -, -⟩ := two_free N1.out
  clear hb1
  go_upto_region 5 with (go_at_call 23; refine (F23.out _ B1.out).mono ?_; rintro e w2 ⟨rfl, hb2⟩)
  have B2 := Lib.hid (below_end B1.out hb2)
  have N2 := Lib.hid (keep_heap hb2 N1.out)
  clear t0 t1
  obtain ⟨t0, t1, -, -⟩ := two_free N2.out
  clear hb2
  go_upto_region 6 with (go_at_call 24; refine (F24.out _ B2.out).mono ?_; rintro e w3 ⟨rfl, hb3⟩)
  have B3 := Lib.hid (below_end B2.out hb3)
  have N3 := Lib.hid (keep_heap hb3 N2.out)
  clear t0 t1
  obtain ⟨t0, t1, -, -⟩ := two_free N3.out
  clear hb3
  go_upto_region 9 with (go_at_call 25; refine (F25.out _ B3.out).mono ?_; rintro e w4 ⟨rfl, hb4⟩)
  have B4 := Lib.hid (below_end B3.out hb4)
  have N4 := Lib.hid (keep_heap hb4 N3.out)
  clear t0 t1
  obtain ⟨t0, t1, -, -⟩ := two_free N4.out
  clear hb4
  go_upto_region 10 with (go_at_call 26; refine (F26.out _ B4.out).mono ?_; intro e w5 q; obtain ⟨v5, rfl, X5, hb5⟩ := IAns.own q; clear q)
  have B5 := Lib.hid (below_end B4.out hb5)
  have N5 := Lib.hid (keep_heap hb5 N4.out)
  clear t0 t1
  obtain ⟨t0, t1, -, -⟩ := two_free N5.out
  clear hb5
  go_upto_region 11 with (go_at_call 27; refine (F27.out _ B5.out).mono ?_; intro e w6 q; obtain ⟨v6, rfl, X6, hb6⟩ := IAns.own q; clear q)
  have B6 := Lib.hid (below_end B5.out hb6)
  have N6 := Lib.hid (keep_heap hb6 N5.out)
  clear t0 t1
  obtain ⟨t0, t1, -, -⟩ := two_free N6.out
  have X5' := Lib.hid (X5.out.below hb6)
  clear hb6
  go_upto_region 12 with (go_at_call 28; refine (F28.out _ B6.out).mono ?_; rintro e w7 ⟨rfl, hb7⟩)
  have B7 := Lib.hid (below_end B6.out hb7)
  have N7 := Lib.hid (keep_heap hb7 N6.out)
  clear t0 t1
  obtain ⟨t0, t1, -, -⟩ := two_free N7.out
  have X5'' := Lib.hid (X5'.out.below hb7)
  have X6'' := Lib.hid (X6.out.below hb7)
  clear hb7
  go_upto_region 13 with (go_at_call 29; refine (F29.out _ B7.out).mono ?_; rintro e w8 ⟨rfl, hb8⟩)
  have B8 := Lib.hid (below_end B7.out hb8)
  have N8 := Lib.hid (keep_heap hb8 N7.out)
  clear t0 t1
  obtain ⟨t0, t1, -, -⟩ := two_free N8.out
  have S := Lib.hid (I21 r3 v5 v6 w8 L2.out (X5''.out.below hb8) (X6''.out.below hb8))
  clear hb8
  go_wp2_with (first
    | (go_at_call 21; refine S.out.mono ?_; rintro e y1 ⟨rfl, hy1⟩)
    | (go_at_call 11; refine (awake11 _).mono ?_; rintro e y2 ⟨rfl, hy2⟩))
  exact bodyPost_ret (v := .bool true) (by simp [results, Try.f4, go_sem]) rfl ⟨rfl, below_end (below_end B8.out hy1) hy2⟩
theorem reads4 (v : Value) (ws : List Int) (a x0 x1 : Int) (w : World) (h : Ar w v ws) :
    Calls Try.prog 4 #[v, .int .i64 a, .agg #[.int .i64 x0, .int .i64 x1]] w fun e w' => e = .returned (.bool true) ∧ Below w.heap.size w w' := by
  by_cases hf : (300 < ws.length ∧ ws.length ≤ 1601) ∨ 1610 < ws.length
  · obtain ⟨A, cap, rfl, -, -⟩ := h.open
    exact reads4_far A ws.length cap a x0 x1 w h.len hf
  · exact reads4_go v ws a x0 x1 w h hf
/-- the cells of a field's box -/
theorem four_cells {W : World} {g : Nat} {x y z u : Value} {t : TypeId} (h : W.heap[g]? = some (.cells #[x, y, z, u] t (0, 0))) :
    W.cell? ⟨g, 0, none⟩ = some x ∧ W.cell? ⟨g, 1, none⟩ = some y ∧ W.cell? ⟨g, 2, none⟩ = some z ∧ W.cell? ⟨g, 3, none⟩ = some u := by
  refine ⟨?_, ?_, ?_, ?_⟩ <;> rw [cell_of_row _ _ _ _ _ _ h] <;> rfl
set_option maxRecDepth 100000 in
set_option maxHeartbeats 2000000 in
theorem sets5_far (A : Option Addr) (n cap : Nat) (a f t z : Int) (w : World) (hn : n ≤ 9223372036854775807) (hf : (300 < n ∧ n ≤ 1601) ∨ 1610 < n) :
    Calls Try.prog 5 #[.slice A n cap, .agg #[.int .i64 a, .int .i64 f, .int .i64 t, .int .u64 z]] w fun e w' => e = .returned (.bool true) ∧ Below w.heap.size w w' := by
  have F := Lib.hid (fun W => far10 A n cap W hn)
  rw [decide_eq_true hf] at F
  clear hf
  go_enter Try.func5, Try.ntmps5
  go_wp2_with (first
    | (go_at_call 10; refine (F.out _).mono ?_; rintro e w' ⟨rfl, rfl⟩)
    | (go_at_call 11; refine (awake11 _).mono ?_; rintro e w1 ⟨rfl, hb1⟩))
  exact bodyPost_ret (v := .bool true) (by simp [results, Try.f5, go_sem]) rfl ⟨rfl, below_end (alloc_below w _) hb1⟩
set_option maxRecDepth 100000 in
set_option maxHeartbeats 2000000 in
theorem sets5_go (v : Value) (ws : List Int) (a f t z : Int) (w : World) (h : Ar w v ws) (hf : ¬ ((300 < ws.length ∧ ws.length ≤ 1601) ∨ 1610 < ws.length)) :
    Calls Try.prog 5 #[v, .agg #[.int .i64 a, .int .i64 f, .int .i64 t, .int .u64 z]] w fun e w' => e = .returned (.bool true) ∧ Below w.heap.size w w' := by
  have F30 := Lib.hid (fun W (hb : Below w.heap.size w W) => setp30 v ws a f t W (h.below hb))
  have F31 := Lib.hid (fun W (hb : Below w.heap.size w W) => rsetp31 v ws a f t W (h.below hb))
  have F32 := Lib.hid (fun W (hb : Below w.heap.size w W) => setr32 v ws a f z W (h.below hb))
  have F33 := Lib.hid (fun W (hb : Below w.heap.size w W) => rsetr33 v ws a f z W (h.below hb))
  have L1 := Lib.hid (Nat.le_trans (sp_len ws a f t) (show ws.length ≤ 1000000 by omega))
  have L2 := Lib.hid (Nat.le_trans (sr_len ws a f z) (show ws.length ≤ 1000000 by omega))
  obtain ⟨A, cap, rfl, -, -⟩ := h.open
  have F := Lib.hid (fun W => far10 A ws.length cap W (by omega))
  rw [decide_eq_false hf] at F
  clear h hf
  generalize spF ws a f t = R1 at *
  generalize srF ws a f z = R2 at *
  generalize ws.length = lx at *
  obtain ⟨r1, e1⟩ := R1
  obtain ⟨r2, e2⟩ := R2
  dsimp only at L1 L2
  have n1 : (e1 == e1) = true := by simp
  have n2 : (e2 == e2) = true := by simp
  have N0 := Lib.hid (heap_alloc_new w (.cells #[.int .i64 a, .int .i64 f, .int .i64 t, .int .u64 z] 49))
  have B0 := Lib.hid (alloc_below w (.cells #[.int .i64 a, .int .i64 f, .int .i64 t, .int .u64 z] 49))
  obtain ⟨t0, t1, t2, t3⟩ := four_cells N0.out
  go_enter Try.func5, Try.ntmps5
  go_upto_region 1 with (fail)
  generalize w.alloc (.cells #[.int .i64 a, .int .i64 f, .int .i64 t, .int .u64 z] 49) = W0 at *
  go_upto_region 3 with (go_at_call 10; refine (F.out _).mono ?_; rintro e w' ⟨rfl, rfl⟩)
  go_upto_region 4 with (go_at_call 30; refine (F30.out _ B0.out).mono ?_; intro e w1 q; obtain ⟨v1, rfl, X1, hb1⟩ := CAns.own q; clear q)
  have B1 := Lib.hid (below_end B0.out hb1)
  have N1 := Lib.hid (keep_heap hb1 N0.out)
  clear t0 t1 t2 t3
  obtain ⟨t0, t1, t2, t3⟩ := four_cells N1.out
  go_upto_region 5 with (go_at_call 31; refine (F31.out _ B1.out).mono ?_; intro e w2 q; obtain ⟨v2, rfl, X2, hb2⟩ := CAns.own q; clear q)
  have B2 := Lib.hid (below_end B1.out hb2)
  have N2 := Lib.hid (keep_heap hb2 N1.out)
  clear t0 t1 t2 t3
  obtain ⟨t0, t1, t2, t3⟩ := four_cells N2.out
  go_upto_region 6 with (go_at_call 32; refine (F32.out _ B2.out).mono ?_; intro e w3 q; obtain ⟨v3, rfl, X3, hb3⟩ := CAns.own q; clear q)
  have B3 := Lib.hid (below_end B2.out hb3)
  have N3 := Lib.hid (keep_heap hb3 N2.out)
  clear t0 t1 t2 t3
  obtain ⟨t0, t1, t2, t3⟩ := four_cells N3.out
  go_upto_region 7 with (go_at_call 33; refine (F33.out _ B3.out).mono ?_; intro e w4 q; obtain ⟨v4, rfl, X4, hb4⟩ := CAns.own q; clear q)
  have B4 := Lib.hid (below_end B3.out hb4)
  have N4 := Lib.hid (keep_heap hb4 N3.out)
  clear t0 t1 t2 t3
  have S1 := Lib.hid (S14 r1 v1 v2 w4 L1.out (((X1.out.below hb2).below hb3).below hb4) ((X2.out.below hb3).below hb4))
  have S2 := Lib.hid (fun W (hb : Below w4.heap.size w4 W) => S14 r2 v3 v4 W L2.out ((X3.out.below hb4).below hb) (X4.out.below hb))
  clear hb1 hb2 hb3 hb4
  go_wp2_with (first
    | (go_at_call 14; (with_reducible refine S1.out.mono ?_); rintro e y1 ⟨rfl, hy1⟩; have Y1 := Lib.hid hy1)
    | (go_at_call 14; (with_reducible refine (S2.out _ Y1.out).mono ?_); rintro e y2 ⟨rfl, hy2⟩)
    | (go_at_call 11; refine (awake11 _).mono ?_; rintro e y3 ⟨rfl, hy3⟩))
  exact bodyPost_ret (v := .bool true) (by simp [results, Try.f5, go_sem]) rfl ⟨rfl, below_end (below_end (below_end B4.out hy1) hy2) hy3⟩
theorem sets5 (v : Value) (ws : List Int) (a f t z : Int) (w : World) (h : Ar w v ws) :
    Calls Try.prog 5 #[v, .agg #[.int .i64 a, .int .i64 f, .int .i64 t, .int .u64 z]] w fun e w' => e = .returned (.bool true) ∧ Below w.heap.size w w' := by
  by_cases hf : (300 < ws.length ∧ ws.length ≤ 1601) ∨ 1610 < ws.length
  · obtain ⟨A, cap, rfl, -, -⟩ := h.open
    exact sets5_far A ws.length cap a f t z w h.len hf
  · exact sets5_go v ws a f t z w h hf
end Ytmgoonahpndfoaa
end Go.Proofs
