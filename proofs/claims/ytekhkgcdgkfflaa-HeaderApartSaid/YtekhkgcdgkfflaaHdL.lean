/- The law HeaderApart answers true. -/
import Derived.Test.YtekhkgcdgkfflaaHdK
namespace Go.Proofs
namespace Ytekhkgcdgkfflaa
open Go.RowKit

theorem or4 (u : Int) (h0 : 0 ≤ u) (h1 : u ≤ 1099511627775) : bits .or .u64 u 1099511627776 = u + 1099511627776 := by
  rw [u64_or _ _ (by omega) (by omega) (by omega) (by omega), or_low _ _ 40 (by decide) (by omega)]; omega
theorem not_obj {v : Int} (h : v % 256 ≠ 1) : (kindV v == 1) = false := by
  simp only [beq_eq_false_iff_ne]
  intro hk
  exact h (obj_mod (kind_one.1 hk)).1
theorem not_mark {v : Int} (h : v % 256 ≠ 2) : (kindV v == 2) = false := by
  simp only [beq_eq_false_iff_ne]
  intro hk
  exact h (kind_two.1 hk).1
theorem far_none {v : Int} (h0 : 1099511627776 ≤ v) : kindV v = 0 := by
  rcases kind_range v with h | h | h
  · exact h
  · have := (obj_mod (kind_one.1 h)).2.1; omega
  · have := kind_two.1 h; omega
/-- what is asked of a header's and of a mark's neighbours -/
structure SideO (u a b : Int) : Prop where
  lo : 1 ≤ u
  hi : u ≤ 16777216
  qa : (a == 1) = false
  qb : (b == 1) = false
  or : bits .or .u64 u 1099511627776 = u + 1099511627776
  c1 : ∀ W, Calls Try.prog 21 #[.int .u64 (u + 1)] W fun e w' => e = .returned (.int .i64 a) ∧ Below W.heap.size W w'
  c2 : ∀ W, Calls Try.prog 21 #[.int .u64 (u - 1)] W fun e w' => e = .returned (.int .i64 b) ∧ Below W.heap.size W w'
  c3 : ∀ W, Calls Try.prog 21 #[.int .u64 (u + 1099511627776)] W fun e w' => e = .returned (.int .i64 0) ∧ Below W.heap.size W w'
structure SideM (u a b : Int) : Prop where
  lo : 1 ≤ u
  hi : u ≤ 16777216
  qa : (a == 2) = false
  qb : (b == 2) = false
  or : bits .or .u64 u 1099511627776 = u + 1099511627776
  c1 : ∀ W, Calls Try.prog 21 #[.int .u64 (u + 1)] W fun e w' => e = .returned (.int .i64 a) ∧ Below W.heap.size W w'
  c2 : ∀ W, Calls Try.prog 21 #[.int .u64 (u - 1)] W fun e w' => e = .returned (.int .i64 b) ∧ Below W.heap.size W w'
  c3 : ∀ W, Calls Try.prog 21 #[.int .u64 (u + 1099511627776)] W fun e w' => e = .returned (.int .i64 0) ∧ Below W.heap.size W w'
theorem side_obj {P R : Int} (h : chkV P R = 0) : ∃ a b, SideO (packV P R) a b := by
  obtain ⟨z0, z1, z2⟩ := chk_zero.1 h
  have hu : packV P R = 1 + 256 * P + 65536 * R := rfl
  generalize packV P R = u at *
  refine ⟨kindV (u + 1), kindV (u - 1), by omega, by omega, not_obj (by omega), not_obj (by omega), or4 u (by omega) (by omega), fun W => kind21 _ ⟨by omega, by omega⟩ W, fun W => kind21 _ ⟨by omega, by omega⟩ W, fun W => ?_⟩
  have := kind21 (u + 1099511627776) ⟨by omega, by omega⟩ W
  rwa [far_none (by omega)] at this
theorem side_mark {a : Int} (h : 1 ≤ a ∧ a ≤ 1600) : ∃ p q, SideM (2 + a * 256) p q := by
  obtain ⟨u, hu⟩ : ∃ u, 2 + a * 256 = u := ⟨_, rfl⟩
  rw [hu]
  refine ⟨kindV (u + 1), kindV (u - 1), by omega, by omega, not_mark (by omega), not_mark (by omega), or4 u (by omega) (by omega), fun W => kind21 _ ⟨by omega, by omega⟩ W, fun W => kind21 _ ⟨by omega, by omega⟩ W, fun W => ?_⟩
  have := kind21 (u + 1099511627776) ⟨by omega, by omega⟩ W
  rwa [far_none (by omega)] at this
/-- a shape's call of Pack -/
structure ApP (P R u c : Int) : Prop where
  c12 : ∀ W, Calls Try.prog 12 #[.agg #[.int .i64 P, .int .i64 R]] W fun e w' => e = .returned (.tuple #[.int .u64 u, .int .i64 c]) ∧ Below W.heap.size W w'
structure ApF (a u c : Int) : Prop where
  c23 : ∀ W, Calls Try.prog 23 #[.int .i64 a] W fun e w' => e = .returned (.tuple #[.int .u64 u, .int .i64 c]) ∧ W = w'
theorem ap_pack {P R : Int} (hP : SI P) (hR : SI R) : (chkV P R = 0 ∧ ApP P R (packV P R) 0) ∨ ∃ c, (c == 0) = false ∧ ApP P R 0 c := by
  by_cases h : chkV P R = 0
  · left
    refine ⟨h, ⟨fun W => ?_⟩⟩
    have := pack12 P R hP hR W; rwa [show packE P R = packV P R from if_pos h, h] at this
  · right
    refine ⟨chkV P R, by simpa using h, ⟨fun W => ?_⟩⟩
    have := pack12 P R hP hR W; rwa [show packE P R = 0 from if_neg h] at this
theorem ap_fwd (a : Int) : ((1 ≤ a ∧ a ≤ 1600) ∧ ApF a (2 + a * 256) 0) ∨ ApF a 0 7 := by
  by_cases h : 1 ≤ a ∧ a ≤ 1600
  · left
    refine ⟨h, ⟨fun W => ?_⟩⟩
    have := fwd23 a W; rwa [show fwdE a = 0 from if_pos h, show fwdV a = 2 + a * 256 from if_pos h] at this
  · right
    refine ⟨fun W => ?_⟩
    have := fwd23 a W; rwa [show fwdE a = 7 from if_neg h, show fwdV a = 0 from if_neg h] at this
theorem pack_eq {P R P' R' : Int} (h : chkV P R = 0) (h' : chkV P' R' = 0) : (packV P R == packV P' R') = same2 P R P' R' := by
  have a := chk_zero.1 h
  have b := chk_zero.1 h'
  unfold packV same2
  rw [Bool.eq_iff_iff]
  simp only [beq_iff_eq, Bool.and_eq_true]
  omega
theorem mark_eq (a b : Int) : ((2 + a * 256) == (2 + b * 256)) = (a == b) := by
  rw [Bool.eq_iff_iff]
  simp only [beq_iff_eq]
  omega
theorem pack_mark {P R a : Int} (h : chkV P R = 0) : (packV P R == 2 + a * 256) = false := by
  have := chk_zero.1 h
  unfold packV
  simp only [beq_eq_false_iff_ne]
  omega
theorem new2 (W : World) (p q : Value) (t : TypeId) : (W.alloc (.cells #[p, q] t)).cell? ⟨W.heap.size, 0, none⟩ = some p ∧ (W.alloc (.cells #[p, q] t)).cell? ⟨W.heap.size, 1, none⟩ = some q := ⟨by simp, by simp⟩
/-- the three boxes of the arguments -/
def Box3 (w W : World) (P R P' R' x y : Int) : Prop :=
  (W.cell? ⟨w.heap.size, 0, none⟩ = some (.int .i64 P) ∧ W.cell? ⟨w.heap.size, 1, none⟩ = some (.int .i64 R)) ∧ (W.cell? ⟨w.heap.size + 1, 0, none⟩ = some (.int .i64 P') ∧ W.cell? ⟨w.heap.size + 1, 1, none⟩ = some (.int .i64 R')) ∧
  (W.cell? ⟨w.heap.size + 2, 0, none⟩ = some (.int .i64 x) ∧ W.cell? ⟨w.heap.size + 2, 1, none⟩ = some (.int .i64 y)) ∧ Below w.heap.size w W
theorem Box3.below {w W W' : World} {P R P' R' x y : Int} (h : Box3 w W P R P' R' x y) (hb : Below W.heap.size W W') : Box3 w W' P R P' R' x y :=
  ⟨far_box h.1 hb, far_box h.2.1 hb, far_box h.2.2.1 hb, below_end h.2.2.2 hb⟩
theorem Box3.new (w : World) (P R P' R' x y : Int) : Box3 w (((w.alloc (.cells #[.int .i64 P, .int .i64 R] 23)).alloc (.cells #[.int .i64 P', .int .i64 R'] 23)).alloc (.cells #[.int .i64 x, .int .i64 y] 45)) P R P' R' x y :=
  have z1 := World.size_alloc w (.cells #[.int .i64 P, .int .i64 R] 23)
  have z2 := World.size_alloc (w.alloc (.cells #[.int .i64 P, .int .i64 R] 23)) (.cells #[.int .i64 P', .int .i64 R'] 23)
  have n1 := new2 w (.int .i64 P) (.int .i64 R) 23
  have n2 := new2 (w.alloc (.cells #[.int .i64 P, .int .i64 R] 23)) (.int .i64 P') (.int .i64 R') 23
  have n3 := new2 ((w.alloc (.cells #[.int .i64 P, .int .i64 R] 23)).alloc (.cells #[.int .i64 P', .int .i64 R'] 23)) (.int .i64 x) (.int .i64 y) 45
  ⟨far_box (far_box n1 (alloc_below _ _)) (alloc_below _ _), by rw [z1] at n2; exact far_box n2 (alloc_below _ _), by rw [z2, z1] at n3; exact n3, below_end (below_end (alloc_below _ _) (alloc_below _ _)) (alloc_below _ _)⟩

set_option maxRecDepth 100000 in
set_option maxHeartbeats 1000000 in
theorem apart_AAAA (P R P2 R2 x y : Int) (u a b : Int) (HS : ApP P R u 0) (HO : SideO u a b) (u2 : Int) (HT : ApP P2 R2 u2 0) (m d f : Int) (HG : ApF x m 0) (HM : SideM m d f) (m2 : Int) (HH : ApF y m2 0) (s : Bool) (e1 : (u == u2) = s) (e2 : same2 P R P2 R2 = s) (t : Bool) (e3 : (m == m2) = t) (e4 : (x == y) = t) (e5 : (u == m) = false) (w : World) :
    Calls Try.prog 7 #[.agg #[.int .i64 P, .int .i64 R], .agg #[.int .i64 P2, .int .i64 R2], .agg #[.int .i64 x, .int .i64 y]] w fun e w' => e = .returned (.bool true) ∧ Below w.heap.size w w' := by
  have s0 := Lib.hid (Box3.new w P R P2 R2 x y)
  have hq := fun W => eql23 P R P2 R2 W
  rw [e2] at hq
  clear e2
  obtain ⟨lo1, hi1, qa1, qb1, or1, d1, d2, d3⟩ := HO
  have D1 := Lib.hid d1
  have D2 := Lib.hid d2
  have D3 := Lib.hid d3
  clear d1 d2 d3
  obtain ⟨lo2, hi2, qa2, qb2, or2, d4, d5, d6⟩ := HM
  have D4 := Lib.hid d4
  have D5 := Lib.hid d5
  have D6 := Lib.hid d6
  clear d4 d5 d6
  go_enter Try.func7, Try.ntmps7
  go_wp2_with (first
    | (go_at_call 12; first | ((with_reducible refine (HS.c12 _).mono ?_); rintro e w1 ⟨rfl, hb1⟩; have s1 := Lib.hid (s0.out.below hb1); clear hb1; obtain ⟨-, ⟨q1, q2⟩, -⟩ := s1.out) | ((with_reducible refine (HT.c12 _).mono ?_); rintro e w2 ⟨rfl, hb2⟩; have s2 := Lib.hid (s1.out.below hb2); clear hb2; clear q1 q2; obtain ⟨⟨q3, q4⟩, ⟨q5, q6⟩, ⟨q7, q8⟩, -⟩ := s2.out))
    | (go_at_call 23; first | ((with_reducible refine (HG.c23 _).mono ?_); rintro e w' ⟨rfl, rfl⟩) | ((with_reducible refine (HH.c23 _).mono ?_); rintro e w' ⟨rfl, rfl⟩))
    | (go_at_call 21; first | ((with_reducible refine (D1.out _).mono ?_); rintro e w3 ⟨rfl, hb3⟩; have s3 := Lib.hid (s2.out.below hb3); clear hb3) | ((with_reducible refine (D2.out _).mono ?_); rintro e w4 ⟨rfl, hb4⟩; have s4 := Lib.hid (s3.out.below hb4); clear hb4) | ((with_reducible refine (D3.out _).mono ?_); rintro e w5 ⟨rfl, hb5⟩; have s5 := Lib.hid (s4.out.below hb5); clear hb5) | ((with_reducible refine (D4.out _).mono ?_); rintro e w6 ⟨rfl, hb6⟩; have s6 := Lib.hid (s5.out.below hb6); clear hb6) | ((with_reducible refine (D5.out _).mono ?_); rintro e w7 ⟨rfl, hb7⟩; have s7 := Lib.hid (s6.out.below hb7); clear hb7) | ((with_reducible refine (D6.out _).mono ?_); rintro e w8 ⟨rfl, hb8⟩; have s8 := Lib.hid (s7.out.below hb8); clear hb8))
    | (go_at_call 16; first | ((with_reducible refine (awake16 _).mono ?_); rintro e w9 ⟨rfl, hb9⟩; have s9 := Lib.hid (s8.out.below hb9); clear hb9)))
  go_ret
  exact ⟨rfl, s9.out.2.2.2⟩
set_option maxRecDepth 100000 in
set_option maxHeartbeats 1000000 in
theorem apart_AAAN (P R P2 R2 x y : Int) (u a b : Int) (HS : ApP P R u 0) (HO : SideO u a b) (u2 : Int) (HT : ApP P2 R2 u2 0) (m d f : Int) (HG : ApF x m 0) (HM : SideM m d f) (HH : ApF y 0 7) (s : Bool) (e1 : (u == u2) = s) (e2 : same2 P R P2 R2 = s) (e5 : (u == m) = false) (w : World) :
    Calls Try.prog 7 #[.agg #[.int .i64 P, .int .i64 R], .agg #[.int .i64 P2, .int .i64 R2], .agg #[.int .i64 x, .int .i64 y]] w fun e w' => e = .returned (.bool true) ∧ Below w.heap.size w w' := by
  have s0 := Lib.hid (Box3.new w P R P2 R2 x y)
  have hq := fun W => eql23 P R P2 R2 W
  rw [e2] at hq
  clear e2
  obtain ⟨lo1, hi1, qa1, qb1, or1, d1, d2, d3⟩ := HO
  have D1 := Lib.hid d1
  have D2 := Lib.hid d2
  have D3 := Lib.hid d3
  clear d1 d2 d3
  obtain ⟨lo2, hi2, qa2, qb2, or2, d4, d5, d6⟩ := HM
  have D4 := Lib.hid d4
  have D5 := Lib.hid d5
  have D6 := Lib.hid d6
  clear d4 d5 d6
  go_enter Try.func7, Try.ntmps7
  go_wp2_with (first
    | (go_at_call 12; first | ((with_reducible refine (HS.c12 _).mono ?_); rintro e w1 ⟨rfl, hb1⟩; have s1 := Lib.hid (s0.out.below hb1); clear hb1; obtain ⟨-, ⟨q1, q2⟩, -⟩ := s1.out) | ((with_reducible refine (HT.c12 _).mono ?_); rintro e w2 ⟨rfl, hb2⟩; have s2 := Lib.hid (s1.out.below hb2); clear hb2; clear q1 q2; obtain ⟨⟨q3, q4⟩, ⟨q5, q6⟩, ⟨q7, q8⟩, -⟩ := s2.out))
    | (go_at_call 23; first | ((with_reducible refine (HG.c23 _).mono ?_); rintro e w' ⟨rfl, rfl⟩) | ((with_reducible refine (HH.c23 _).mono ?_); rintro e w' ⟨rfl, rfl⟩))
    | (go_at_call 21; first | ((with_reducible refine (D1.out _).mono ?_); rintro e w3 ⟨rfl, hb3⟩; have s3 := Lib.hid (s2.out.below hb3); clear hb3) | ((with_reducible refine (D2.out _).mono ?_); rintro e w4 ⟨rfl, hb4⟩; have s4 := Lib.hid (s3.out.below hb4); clear hb4) | ((with_reducible refine (D3.out _).mono ?_); rintro e w5 ⟨rfl, hb5⟩; have s5 := Lib.hid (s4.out.below hb5); clear hb5) | ((with_reducible refine (D4.out _).mono ?_); rintro e w6 ⟨rfl, hb6⟩; have s6 := Lib.hid (s5.out.below hb6); clear hb6) | ((with_reducible refine (D5.out _).mono ?_); rintro e w7 ⟨rfl, hb7⟩; have s7 := Lib.hid (s6.out.below hb7); clear hb7) | ((with_reducible refine (D6.out _).mono ?_); rintro e w8 ⟨rfl, hb8⟩; have s8 := Lib.hid (s7.out.below hb8); clear hb8))
    | (go_at_call 16; first | ((with_reducible refine (awake16 _).mono ?_); rintro e w9 ⟨rfl, hb9⟩; have s9 := Lib.hid (s8.out.below hb9); clear hb9)))
  go_ret
  exact ⟨rfl, s9.out.2.2.2⟩
set_option maxRecDepth 100000 in
set_option maxHeartbeats 1000000 in
theorem apart_AANA (P R P2 R2 x y : Int) (u a b : Int) (HS : ApP P R u 0) (HO : SideO u a b) (u2 : Int) (HT : ApP P2 R2 u2 0) (HG : ApF x 0 7) (m2 : Int) (HH : ApF y m2 0) (s : Bool) (e1 : (u == u2) = s) (e2 : same2 P R P2 R2 = s) (w : World) :
    Calls Try.prog 7 #[.agg #[.int .i64 P, .int .i64 R], .agg #[.int .i64 P2, .int .i64 R2], .agg #[.int .i64 x, .int .i64 y]] w fun e w' => e = .returned (.bool true) ∧ Below w.heap.size w w' := by
  have s0 := Lib.hid (Box3.new w P R P2 R2 x y)
  have hq := fun W => eql23 P R P2 R2 W
  rw [e2] at hq
  clear e2
  obtain ⟨lo1, hi1, qa1, qb1, or1, d1, d2, d3⟩ := HO
  have D1 := Lib.hid d1
  have D2 := Lib.hid d2
  have D3 := Lib.hid d3
  clear d1 d2 d3
  go_enter Try.func7, Try.ntmps7
  go_wp2_with (first
    | (go_at_call 12; first | ((with_reducible refine (HS.c12 _).mono ?_); rintro e w1 ⟨rfl, hb1⟩; have s1 := Lib.hid (s0.out.below hb1); clear hb1; obtain ⟨-, ⟨q1, q2⟩, -⟩ := s1.out) | ((with_reducible refine (HT.c12 _).mono ?_); rintro e w2 ⟨rfl, hb2⟩; have s2 := Lib.hid (s1.out.below hb2); clear hb2; clear q1 q2; obtain ⟨⟨q3, q4⟩, ⟨q5, q6⟩, ⟨q7, q8⟩, -⟩ := s2.out))
    | (go_at_call 23; first | ((with_reducible refine (HG.c23 _).mono ?_); rintro e w' ⟨rfl, rfl⟩) | ((with_reducible refine (HH.c23 _).mono ?_); rintro e w' ⟨rfl, rfl⟩))
    | (go_at_call 21; first | ((with_reducible refine (D1.out _).mono ?_); rintro e w3 ⟨rfl, hb3⟩; have s3 := Lib.hid (s2.out.below hb3); clear hb3) | ((with_reducible refine (D2.out _).mono ?_); rintro e w4 ⟨rfl, hb4⟩; have s4 := Lib.hid (s3.out.below hb4); clear hb4) | ((with_reducible refine (D3.out _).mono ?_); rintro e w5 ⟨rfl, hb5⟩; have s5 := Lib.hid (s4.out.below hb5); clear hb5))
    | (go_at_call 16; first | ((with_reducible refine (awake16 _).mono ?_); rintro e w6 ⟨rfl, hb6⟩; have s6 := Lib.hid (s5.out.below hb6); clear hb6)))
  go_ret
  exact ⟨rfl, s6.out.2.2.2⟩
set_option maxRecDepth 100000 in
set_option maxHeartbeats 1000000 in
theorem apart_AANN (P R P2 R2 x y : Int) (u a b : Int) (HS : ApP P R u 0) (HO : SideO u a b) (u2 : Int) (HT : ApP P2 R2 u2 0) (HG : ApF x 0 7) (HH : ApF y 0 7) (s : Bool) (e1 : (u == u2) = s) (e2 : same2 P R P2 R2 = s) (w : World) :
    Calls Try.prog 7 #[.agg #[.int .i64 P, .int .i64 R], .agg #[.int .i64 P2, .int .i64 R2], .agg #[.int .i64 x, .int .i64 y]] w fun e w' => e = .returned (.bool true) ∧ Below w.heap.size w w' := by
  have s0 := Lib.hid (Box3.new w P R P2 R2 x y)
  have hq := fun W => eql23 P R P2 R2 W
  rw [e2] at hq
  clear e2
  obtain ⟨lo1, hi1, qa1, qb1, or1, d1, d2, d3⟩ := HO
  have D1 := Lib.hid d1
  have D2 := Lib.hid d2
  have D3 := Lib.hid d3
  clear d1 d2 d3
  go_enter Try.func7, Try.ntmps7
  go_wp2_with (first
    | (go_at_call 12; first | ((with_reducible refine (HS.c12 _).mono ?_); rintro e w1 ⟨rfl, hb1⟩; have s1 := Lib.hid (s0.out.below hb1); clear hb1; obtain ⟨-, ⟨q1, q2⟩, -⟩ := s1.out) | ((with_reducible refine (HT.c12 _).mono ?_); rintro e w2 ⟨rfl, hb2⟩; have s2 := Lib.hid (s1.out.below hb2); clear hb2; clear q1 q2; obtain ⟨⟨q3, q4⟩, ⟨q5, q6⟩, ⟨q7, q8⟩, -⟩ := s2.out))
    | (go_at_call 23; first | ((with_reducible refine (HG.c23 _).mono ?_); rintro e w' ⟨rfl, rfl⟩) | ((with_reducible refine (HH.c23 _).mono ?_); rintro e w' ⟨rfl, rfl⟩))
    | (go_at_call 21; first | ((with_reducible refine (D1.out _).mono ?_); rintro e w3 ⟨rfl, hb3⟩; have s3 := Lib.hid (s2.out.below hb3); clear hb3) | ((with_reducible refine (D2.out _).mono ?_); rintro e w4 ⟨rfl, hb4⟩; have s4 := Lib.hid (s3.out.below hb4); clear hb4) | ((with_reducible refine (D3.out _).mono ?_); rintro e w5 ⟨rfl, hb5⟩; have s5 := Lib.hid (s4.out.below hb5); clear hb5))
    | (go_at_call 16; first | ((with_reducible refine (awake16 _).mono ?_); rintro e w6 ⟨rfl, hb6⟩; have s6 := Lib.hid (s5.out.below hb6); clear hb6)))
  go_ret
  exact ⟨rfl, s6.out.2.2.2⟩
set_option maxRecDepth 100000 in
set_option maxHeartbeats 1000000 in
theorem apart_ANAA (P R P2 R2 x y : Int) (u a b : Int) (HS : ApP P R u 0) (HO : SideO u a b) (c2 : Int) (qc2 : (c2 == 0) = false) (HT : ApP P2 R2 0 c2) (m d f : Int) (HG : ApF x m 0) (HM : SideM m d f) (m2 : Int) (HH : ApF y m2 0) (t : Bool) (e3 : (m == m2) = t) (e4 : (x == y) = t) (e5 : (u == m) = false) (w : World) :
    Calls Try.prog 7 #[.agg #[.int .i64 P, .int .i64 R], .agg #[.int .i64 P2, .int .i64 R2], .agg #[.int .i64 x, .int .i64 y]] w fun e w' => e = .returned (.bool true) ∧ Below w.heap.size w w' := by
  have s0 := Lib.hid (Box3.new w P R P2 R2 x y)
  obtain ⟨lo1, hi1, qa1, qb1, or1, d1, d2, d3⟩ := HO
  have D1 := Lib.hid d1
  have D2 := Lib.hid d2
  have D3 := Lib.hid d3
  clear d1 d2 d3
  obtain ⟨lo2, hi2, qa2, qb2, or2, d4, d5, d6⟩ := HM
  have D4 := Lib.hid d4
  have D5 := Lib.hid d5
  have D6 := Lib.hid d6
  clear d4 d5 d6
  go_enter Try.func7, Try.ntmps7
  go_wp2_with (first
    | (go_at_call 12; first | ((with_reducible refine (HS.c12 _).mono ?_); rintro e w1 ⟨rfl, hb1⟩; have s1 := Lib.hid (s0.out.below hb1); clear hb1; obtain ⟨-, ⟨q1, q2⟩, -⟩ := s1.out) | ((with_reducible refine (HT.c12 _).mono ?_); rintro e w2 ⟨rfl, hb2⟩; have s2 := Lib.hid (s1.out.below hb2); clear hb2; clear q1 q2; obtain ⟨⟨q3, q4⟩, ⟨q5, q6⟩, ⟨q7, q8⟩, -⟩ := s2.out))
    | (go_at_call 23; first | ((with_reducible refine (HG.c23 _).mono ?_); rintro e w' ⟨rfl, rfl⟩) | ((with_reducible refine (HH.c23 _).mono ?_); rintro e w' ⟨rfl, rfl⟩))
    | (go_at_call 21; first | ((with_reducible refine (D1.out _).mono ?_); rintro e w3 ⟨rfl, hb3⟩; have s3 := Lib.hid (s2.out.below hb3); clear hb3) | ((with_reducible refine (D2.out _).mono ?_); rintro e w4 ⟨rfl, hb4⟩; have s4 := Lib.hid (s3.out.below hb4); clear hb4) | ((with_reducible refine (D3.out _).mono ?_); rintro e w5 ⟨rfl, hb5⟩; have s5 := Lib.hid (s4.out.below hb5); clear hb5) | ((with_reducible refine (D4.out _).mono ?_); rintro e w6 ⟨rfl, hb6⟩; have s6 := Lib.hid (s5.out.below hb6); clear hb6) | ((with_reducible refine (D5.out _).mono ?_); rintro e w7 ⟨rfl, hb7⟩; have s7 := Lib.hid (s6.out.below hb7); clear hb7) | ((with_reducible refine (D6.out _).mono ?_); rintro e w8 ⟨rfl, hb8⟩; have s8 := Lib.hid (s7.out.below hb8); clear hb8))
    | (go_at_call 16; first | ((with_reducible refine (awake16 _).mono ?_); rintro e w9 ⟨rfl, hb9⟩; have s9 := Lib.hid (s8.out.below hb9); clear hb9)))
  go_ret
  exact ⟨rfl, s9.out.2.2.2⟩
set_option maxRecDepth 100000 in
set_option maxHeartbeats 1000000 in
theorem apart_ANAN (P R P2 R2 x y : Int) (u a b : Int) (HS : ApP P R u 0) (HO : SideO u a b) (c2 : Int) (qc2 : (c2 == 0) = false) (HT : ApP P2 R2 0 c2) (m d f : Int) (HG : ApF x m 0) (HM : SideM m d f) (HH : ApF y 0 7) (e5 : (u == m) = false) (w : World) :
    Calls Try.prog 7 #[.agg #[.int .i64 P, .int .i64 R], .agg #[.int .i64 P2, .int .i64 R2], .agg #[.int .i64 x, .int .i64 y]] w fun e w' => e = .returned (.bool true) ∧ Below w.heap.size w w' := by
  have s0 := Lib.hid (Box3.new w P R P2 R2 x y)
  obtain ⟨lo1, hi1, qa1, qb1, or1, d1, d2, d3⟩ := HO
  have D1 := Lib.hid d1
  have D2 := Lib.hid d2
  have D3 := Lib.hid d3
  clear d1 d2 d3
  obtain ⟨lo2, hi2, qa2, qb2, or2, d4, d5, d6⟩ := HM
  have D4 := Lib.hid d4
  have D5 := Lib.hid d5
  have D6 := Lib.hid d6
  clear d4 d5 d6
  go_enter Try.func7, Try.ntmps7
  go_wp2_with (first
    | (go_at_call 12; first | ((with_reducible refine (HS.c12 _).mono ?_); rintro e w1 ⟨rfl, hb1⟩; have s1 := Lib.hid (s0.out.below hb1); clear hb1; obtain ⟨-, ⟨q1, q2⟩, -⟩ := s1.out) | ((with_reducible refine (HT.c12 _).mono ?_); rintro e w2 ⟨rfl, hb2⟩; have s2 := Lib.hid (s1.out.below hb2); clear hb2; clear q1 q2; obtain ⟨⟨q3, q4⟩, ⟨q5, q6⟩, ⟨q7, q8⟩, -⟩ := s2.out))
    | (go_at_call 23; first | ((with_reducible refine (HG.c23 _).mono ?_); rintro e w' ⟨rfl, rfl⟩) | ((with_reducible refine (HH.c23 _).mono ?_); rintro e w' ⟨rfl, rfl⟩))
    | (go_at_call 21; first | ((with_reducible refine (D1.out _).mono ?_); rintro e w3 ⟨rfl, hb3⟩; have s3 := Lib.hid (s2.out.below hb3); clear hb3) | ((with_reducible refine (D2.out _).mono ?_); rintro e w4 ⟨rfl, hb4⟩; have s4 := Lib.hid (s3.out.below hb4); clear hb4) | ((with_reducible refine (D3.out _).mono ?_); rintro e w5 ⟨rfl, hb5⟩; have s5 := Lib.hid (s4.out.below hb5); clear hb5) | ((with_reducible refine (D4.out _).mono ?_); rintro e w6 ⟨rfl, hb6⟩; have s6 := Lib.hid (s5.out.below hb6); clear hb6) | ((with_reducible refine (D5.out _).mono ?_); rintro e w7 ⟨rfl, hb7⟩; have s7 := Lib.hid (s6.out.below hb7); clear hb7) | ((with_reducible refine (D6.out _).mono ?_); rintro e w8 ⟨rfl, hb8⟩; have s8 := Lib.hid (s7.out.below hb8); clear hb8))
    | (go_at_call 16; first | ((with_reducible refine (awake16 _).mono ?_); rintro e w9 ⟨rfl, hb9⟩; have s9 := Lib.hid (s8.out.below hb9); clear hb9)))
  go_ret
  exact ⟨rfl, s9.out.2.2.2⟩
set_option maxRecDepth 100000 in
set_option maxHeartbeats 1000000 in
theorem apart_ANNA (P R P2 R2 x y : Int) (u a b : Int) (HS : ApP P R u 0) (HO : SideO u a b) (c2 : Int) (qc2 : (c2 == 0) = false) (HT : ApP P2 R2 0 c2) (HG : ApF x 0 7) (m2 : Int) (HH : ApF y m2 0) (w : World) :
    Calls Try.prog 7 #[.agg #[.int .i64 P, .int .i64 R], .agg #[.int .i64 P2, .int .i64 R2], .agg #[.int .i64 x, .int .i64 y]] w fun e w' => e = .returned (.bool true) ∧ Below w.heap.size w w' := by
  have s0 := Lib.hid (Box3.new w P R P2 R2 x y)
  obtain ⟨lo1, hi1, qa1, qb1, or1, d1, d2, d3⟩ := HO
  have D1 := Lib.hid d1
  have D2 := Lib.hid d2
  have D3 := Lib.hid d3
  clear d1 d2 d3
  go_enter Try.func7, Try.ntmps7
  go_wp2_with (first
    | (go_at_call 12; first | ((with_reducible refine (HS.c12 _).mono ?_); rintro e w1 ⟨rfl, hb1⟩; have s1 := Lib.hid (s0.out.below hb1); clear hb1; obtain ⟨-, ⟨q1, q2⟩, -⟩ := s1.out) | ((with_reducible refine (HT.c12 _).mono ?_); rintro e w2 ⟨rfl, hb2⟩; have s2 := Lib.hid (s1.out.below hb2); clear hb2; clear q1 q2; obtain ⟨⟨q3, q4⟩, ⟨q5, q6⟩, ⟨q7, q8⟩, -⟩ := s2.out))
    | (go_at_call 23; first | ((with_reducible refine (HG.c23 _).mono ?_); rintro e w' ⟨rfl, rfl⟩) | ((with_reducible refine (HH.c23 _).mono ?_); rintro e w' ⟨rfl, rfl⟩))
    | (go_at_call 21; first | ((with_reducible refine (D1.out _).mono ?_); rintro e w3 ⟨rfl, hb3⟩; have s3 := Lib.hid (s2.out.below hb3); clear hb3) | ((with_reducible refine (D2.out _).mono ?_); rintro e w4 ⟨rfl, hb4⟩; have s4 := Lib.hid (s3.out.below hb4); clear hb4) | ((with_reducible refine (D3.out _).mono ?_); rintro e w5 ⟨rfl, hb5⟩; have s5 := Lib.hid (s4.out.below hb5); clear hb5))
    | (go_at_call 16; first | ((with_reducible refine (awake16 _).mono ?_); rintro e w6 ⟨rfl, hb6⟩; have s6 := Lib.hid (s5.out.below hb6); clear hb6)))
  go_ret
  exact ⟨rfl, s6.out.2.2.2⟩
set_option maxRecDepth 100000 in
set_option maxHeartbeats 1000000 in
theorem apart_ANNN (P R P2 R2 x y : Int) (u a b : Int) (HS : ApP P R u 0) (HO : SideO u a b) (c2 : Int) (qc2 : (c2 == 0) = false) (HT : ApP P2 R2 0 c2) (HG : ApF x 0 7) (HH : ApF y 0 7) (w : World) :
    Calls Try.prog 7 #[.agg #[.int .i64 P, .int .i64 R], .agg #[.int .i64 P2, .int .i64 R2], .agg #[.int .i64 x, .int .i64 y]] w fun e w' => e = .returned (.bool true) ∧ Below w.heap.size w w' := by
  have s0 := Lib.hid (Box3.new w P R P2 R2 x y)
  obtain ⟨lo1, hi1, qa1, qb1, or1, d1, d2, d3⟩ := HO
  have D1 := Lib.hid d1
  have D2 := Lib.hid d2
  have D3 := Lib.hid d3
  clear d1 d2 d3
  go_enter Try.func7, Try.ntmps7
  go_wp2_with (first
    | (go_at_call 12; first | ((with_reducible refine (HS.c12 _).mono ?_); rintro e w1 ⟨rfl, hb1⟩; have s1 := Lib.hid (s0.out.below hb1); clear hb1; obtain ⟨-, ⟨q1, q2⟩, -⟩ := s1.out) | ((with_reducible refine (HT.c12 _).mono ?_); rintro e w2 ⟨rfl, hb2⟩; have s2 := Lib.hid (s1.out.below hb2); clear hb2; clear q1 q2; obtain ⟨⟨q3, q4⟩, ⟨q5, q6⟩, ⟨q7, q8⟩, -⟩ := s2.out))
    | (go_at_call 23; first | ((with_reducible refine (HG.c23 _).mono ?_); rintro e w' ⟨rfl, rfl⟩) | ((with_reducible refine (HH.c23 _).mono ?_); rintro e w' ⟨rfl, rfl⟩))
    | (go_at_call 21; first | ((with_reducible refine (D1.out _).mono ?_); rintro e w3 ⟨rfl, hb3⟩; have s3 := Lib.hid (s2.out.below hb3); clear hb3) | ((with_reducible refine (D2.out _).mono ?_); rintro e w4 ⟨rfl, hb4⟩; have s4 := Lib.hid (s3.out.below hb4); clear hb4) | ((with_reducible refine (D3.out _).mono ?_); rintro e w5 ⟨rfl, hb5⟩; have s5 := Lib.hid (s4.out.below hb5); clear hb5))
    | (go_at_call 16; first | ((with_reducible refine (awake16 _).mono ?_); rintro e w6 ⟨rfl, hb6⟩; have s6 := Lib.hid (s5.out.below hb6); clear hb6)))
  go_ret
  exact ⟨rfl, s6.out.2.2.2⟩
set_option maxRecDepth 100000 in
set_option maxHeartbeats 1000000 in
theorem apart_NAAA (P R P2 R2 x y : Int) (c : Int) (qc : (c == 0) = false) (HS : ApP P R 0 c) (u2 : Int) (HT : ApP P2 R2 u2 0) (m d f : Int) (HG : ApF x m 0) (HM : SideM m d f) (m2 : Int) (HH : ApF y m2 0) (t : Bool) (e3 : (m == m2) = t) (e4 : (x == y) = t) (w : World) :
    Calls Try.prog 7 #[.agg #[.int .i64 P, .int .i64 R], .agg #[.int .i64 P2, .int .i64 R2], .agg #[.int .i64 x, .int .i64 y]] w fun e w' => e = .returned (.bool true) ∧ Below w.heap.size w w' := by
  have s0 := Lib.hid (Box3.new w P R P2 R2 x y)
  obtain ⟨lo2, hi2, qa2, qb2, or2, d4, d5, d6⟩ := HM
  have D4 := Lib.hid d4
  have D5 := Lib.hid d5
  have D6 := Lib.hid d6
  clear d4 d5 d6
  go_enter Try.func7, Try.ntmps7
  go_wp2_with (first
    | (go_at_call 12; first | ((with_reducible refine (HS.c12 _).mono ?_); rintro e w1 ⟨rfl, hb1⟩; have s1 := Lib.hid (s0.out.below hb1); clear hb1; obtain ⟨-, ⟨q1, q2⟩, -⟩ := s1.out) | ((with_reducible refine (HT.c12 _).mono ?_); rintro e w2 ⟨rfl, hb2⟩; have s2 := Lib.hid (s1.out.below hb2); clear hb2; clear q1 q2; obtain ⟨⟨q3, q4⟩, ⟨q5, q6⟩, ⟨q7, q8⟩, -⟩ := s2.out))
    | (go_at_call 23; first | ((with_reducible refine (HG.c23 _).mono ?_); rintro e w' ⟨rfl, rfl⟩) | ((with_reducible refine (HH.c23 _).mono ?_); rintro e w' ⟨rfl, rfl⟩))
    | (go_at_call 21; first | ((with_reducible refine (D4.out _).mono ?_); rintro e w3 ⟨rfl, hb3⟩; have s3 := Lib.hid (s2.out.below hb3); clear hb3) | ((with_reducible refine (D5.out _).mono ?_); rintro e w4 ⟨rfl, hb4⟩; have s4 := Lib.hid (s3.out.below hb4); clear hb4) | ((with_reducible refine (D6.out _).mono ?_); rintro e w5 ⟨rfl, hb5⟩; have s5 := Lib.hid (s4.out.below hb5); clear hb5))
    | (go_at_call 16; first | ((with_reducible refine (awake16 _).mono ?_); rintro e w6 ⟨rfl, hb6⟩; have s6 := Lib.hid (s5.out.below hb6); clear hb6)))
  go_ret
  exact ⟨rfl, s6.out.2.2.2⟩
set_option maxRecDepth 100000 in
set_option maxHeartbeats 1000000 in
theorem apart_NAAN (P R P2 R2 x y : Int) (c : Int) (qc : (c == 0) = false) (HS : ApP P R 0 c) (u2 : Int) (HT : ApP P2 R2 u2 0) (m d f : Int) (HG : ApF x m 0) (HM : SideM m d f) (HH : ApF y 0 7) (w : World) :
    Calls Try.prog 7 #[.agg #[.int .i64 P, .int .i64 R], .agg #[.int .i64 P2, .int .i64 R2], .agg #[.int .i64 x, .int .i64 y]] w fun e w' => e = .returned (.bool true) ∧ Below w.heap.size w w' := by
  have s0 := Lib.hid (Box3.new w P R P2 R2 x y)
  obtain ⟨lo2, hi2, qa2, qb2, or2, d4, d5, d6⟩ := HM
  have D4 := Lib.hid d4
  have D5 := Lib.hid d5
  have D6 := Lib.hid d6
  clear d4 d5 d6
  go_enter Try.func7, Try.ntmps7
  go_wp2_with (first
    | (go_at_call 12; first | ((with_reducible refine (HS.c12 _).mono ?_); rintro e w1 ⟨rfl, hb1⟩; have s1 := Lib.hid (s0.out.below hb1); clear hb1; obtain ⟨-, ⟨q1, q2⟩, -⟩ := s1.out) | ((with_reducible refine (HT.c12 _).mono ?_); rintro e w2 ⟨rfl, hb2⟩; have s2 := Lib.hid (s1.out.below hb2); clear hb2; clear q1 q2; obtain ⟨⟨q3, q4⟩, ⟨q5, q6⟩, ⟨q7, q8⟩, -⟩ := s2.out))
    | (go_at_call 23; first | ((with_reducible refine (HG.c23 _).mono ?_); rintro e w' ⟨rfl, rfl⟩) | ((with_reducible refine (HH.c23 _).mono ?_); rintro e w' ⟨rfl, rfl⟩))
    | (go_at_call 21; first | ((with_reducible refine (D4.out _).mono ?_); rintro e w3 ⟨rfl, hb3⟩; have s3 := Lib.hid (s2.out.below hb3); clear hb3) | ((with_reducible refine (D5.out _).mono ?_); rintro e w4 ⟨rfl, hb4⟩; have s4 := Lib.hid (s3.out.below hb4); clear hb4) | ((with_reducible refine (D6.out _).mono ?_); rintro e w5 ⟨rfl, hb5⟩; have s5 := Lib.hid (s4.out.below hb5); clear hb5))
    | (go_at_call 16; first | ((with_reducible refine (awake16 _).mono ?_); rintro e w6 ⟨rfl, hb6⟩; have s6 := Lib.hid (s5.out.below hb6); clear hb6)))
  go_ret
  exact ⟨rfl, s6.out.2.2.2⟩
set_option maxRecDepth 100000 in
set_option maxHeartbeats 1000000 in
theorem apart_NANA (P R P2 R2 x y : Int) (c : Int) (qc : (c == 0) = false) (HS : ApP P R 0 c) (u2 : Int) (HT : ApP P2 R2 u2 0) (HG : ApF x 0 7) (m2 : Int) (HH : ApF y m2 0) (w : World) :
    Calls Try.prog 7 #[.agg #[.int .i64 P, .int .i64 R], .agg #[.int .i64 P2, .int .i64 R2], .agg #[.int .i64 x, .int .i64 y]] w fun e w' => e = .returned (.bool true) ∧ Below w.heap.size w w' := by
  have s0 := Lib.hid (Box3.new w P R P2 R2 x y)
  
  go_enter Try.func7, Try.ntmps7
  go_wp2_with (first
    | (go_at_call 12; first | ((with_reducible refine (HS.c12 _).mono ?_); rintro e w1 ⟨rfl, hb1⟩; have s1 := Lib.hid (s0.out.below hb1); clear hb1; obtain ⟨-, ⟨q1, q2⟩, -⟩ := s1.out) | ((with_reducible refine (HT.c12 _).mono ?_); rintro e w2 ⟨rfl, hb2⟩; have s2 := Lib.hid (s1.out.below hb2); clear hb2; clear q1 q2; obtain ⟨⟨q3, q4⟩, ⟨q5, q6⟩, ⟨q7, q8⟩, -⟩ := s2.out))
    | (go_at_call 23; first | ((with_reducible refine (HG.c23 _).mono ?_); rintro e w' ⟨rfl, rfl⟩) | ((with_reducible refine (HH.c23 _).mono ?_); rintro e w' ⟨rfl, rfl⟩))
    | (go_at_call 16; first | ((with_reducible refine (awake16 _).mono ?_); rintro e w3 ⟨rfl, hb3⟩; have s3 := Lib.hid (s2.out.below hb3); clear hb3)))
  go_ret
  exact ⟨rfl, s3.out.2.2.2⟩
set_option maxRecDepth 100000 in
set_option maxHeartbeats 1000000 in
theorem apart_NANN (P R P2 R2 x y : Int) (c : Int) (qc : (c == 0) = false) (HS : ApP P R 0 c) (u2 : Int) (HT : ApP P2 R2 u2 0) (HG : ApF x 0 7) (HH : ApF y 0 7) (w : World) :
    Calls Try.prog 7 #[.agg #[.int .i64 P, .int .i64 R], .agg #[.int .i64 P2, .int .i64 R2], .agg #[.int .i64 x, .int .i64 y]] w fun e w' => e = .returned (.bool true) ∧ Below w.heap.size w w' := by
  have s0 := Lib.hid (Box3.new w P R P2 R2 x y)
  
  go_enter Try.func7, Try.ntmps7
  go_wp2_with (first
    | (go_at_call 12; first | ((with_reducible refine (HS.c12 _).mono ?_); rintro e w1 ⟨rfl, hb1⟩; have s1 := Lib.hid (s0.out.below hb1); clear hb1; obtain ⟨-, ⟨q1, q2⟩, -⟩ := s1.out) | ((with_reducible refine (HT.c12 _).mono ?_); rintro e w2 ⟨rfl, hb2⟩; have s2 := Lib.hid (s1.out.below hb2); clear hb2; clear q1 q2; obtain ⟨⟨q3, q4⟩, ⟨q5, q6⟩, ⟨q7, q8⟩, -⟩ := s2.out))
    | (go_at_call 23; first | ((with_reducible refine (HG.c23 _).mono ?_); rintro e w' ⟨rfl, rfl⟩) | ((with_reducible refine (HH.c23 _).mono ?_); rintro e w' ⟨rfl, rfl⟩))
    | (go_at_call 16; first | ((with_reducible refine (awake16 _).mono ?_); rintro e w3 ⟨rfl, hb3⟩; have s3 := Lib.hid (s2.out.below hb3); clear hb3)))
  go_ret
  exact ⟨rfl, s3.out.2.2.2⟩
set_option maxRecDepth 100000 in
set_option maxHeartbeats 1000000 in
theorem apart_NNAA (P R P2 R2 x y : Int) (c : Int) (qc : (c == 0) = false) (HS : ApP P R 0 c) (c2 : Int) (HT : ApP P2 R2 0 c2) (m d f : Int) (HG : ApF x m 0) (HM : SideM m d f) (m2 : Int) (HH : ApF y m2 0) (t : Bool) (e3 : (m == m2) = t) (e4 : (x == y) = t) (w : World) :
    Calls Try.prog 7 #[.agg #[.int .i64 P, .int .i64 R], .agg #[.int .i64 P2, .int .i64 R2], .agg #[.int .i64 x, .int .i64 y]] w fun e w' => e = .returned (.bool true) ∧ Below w.heap.size w w' := by
  have s0 := Lib.hid (Box3.new w P R P2 R2 x y)
  obtain ⟨lo2, hi2, qa2, qb2, or2, d4, d5, d6⟩ := HM
  have D4 := Lib.hid d4
  have D5 := Lib.hid d5
  have D6 := Lib.hid d6
  clear d4 d5 d6
  go_enter Try.func7, Try.ntmps7
  go_wp2_with (first
    | (go_at_call 12; first | ((with_reducible refine (HS.c12 _).mono ?_); rintro e w1 ⟨rfl, hb1⟩; have s1 := Lib.hid (s0.out.below hb1); clear hb1; obtain ⟨-, ⟨q1, q2⟩, -⟩ := s1.out) | ((with_reducible refine (HT.c12 _).mono ?_); rintro e w2 ⟨rfl, hb2⟩; have s2 := Lib.hid (s1.out.below hb2); clear hb2; clear q1 q2; obtain ⟨⟨q3, q4⟩, ⟨q5, q6⟩, ⟨q7, q8⟩, -⟩ := s2.out))
    | (go_at_call 23; first | ((with_reducible refine (HG.c23 _).mono ?_); rintro e w' ⟨rfl, rfl⟩) | ((with_reducible refine (HH.c23 _).mono ?_); rintro e w' ⟨rfl, rfl⟩))
    | (go_at_call 21; first | ((with_reducible refine (D4.out _).mono ?_); rintro e w3 ⟨rfl, hb3⟩; have s3 := Lib.hid (s2.out.below hb3); clear hb3) | ((with_reducible refine (D5.out _).mono ?_); rintro e w4 ⟨rfl, hb4⟩; have s4 := Lib.hid (s3.out.below hb4); clear hb4) | ((with_reducible refine (D6.out _).mono ?_); rintro e w5 ⟨rfl, hb5⟩; have s5 := Lib.hid (s4.out.below hb5); clear hb5))
    | (go_at_call 16; first | ((with_reducible refine (awake16 _).mono ?_); rintro e w6 ⟨rfl, hb6⟩; have s6 := Lib.hid (s5.out.below hb6); clear hb6)))
  go_ret
  exact ⟨rfl, s6.out.2.2.2⟩
set_option maxRecDepth 100000 in
set_option maxHeartbeats 1000000 in
theorem apart_NNAN (P R P2 R2 x y : Int) (c : Int) (qc : (c == 0) = false) (HS : ApP P R 0 c) (c2 : Int) (HT : ApP P2 R2 0 c2) (m d f : Int) (HG : ApF x m 0) (HM : SideM m d f) (HH : ApF y 0 7) (w : World) :
    Calls Try.prog 7 #[.agg #[.int .i64 P, .int .i64 R], .agg #[.int .i64 P2, .int .i64 R2], .agg #[.int .i64 x, .int .i64 y]] w fun e w' => e = .returned (.bool true) ∧ Below w.heap.size w w' := by
  have s0 := Lib.hid (Box3.new w P R P2 R2 x y)
  obtain ⟨lo2, hi2, qa2, qb2, or2, d4, d5, d6⟩ := HM
  have D4 := Lib.hid d4
  have D5 := Lib.hid d5
  have D6 := Lib.hid d6
  clear d4 d5 d6
  go_enter Try.func7, Try.ntmps7
  go_wp2_with (first
    | (go_at_call 12; first | ((with_reducible refine (HS.c12 _).mono ?_); rintro e w1 ⟨rfl, hb1⟩; have s1 := Lib.hid (s0.out.below hb1); clear hb1; obtain ⟨-, ⟨q1, q2⟩, -⟩ := s1.out) | ((with_reducible refine (HT.c12 _).mono ?_); rintro e w2 ⟨rfl, hb2⟩; have s2 := Lib.hid (s1.out.below hb2); clear hb2; clear q1 q2; obtain ⟨⟨q3, q4⟩, ⟨q5, q6⟩, ⟨q7, q8⟩, -⟩ := s2.out))
    | (go_at_call 23; first | ((with_reducible refine (HG.c23 _).mono ?_); rintro e w' ⟨rfl, rfl⟩) | ((with_reducible refine (HH.c23 _).mono ?_); rintro e w' ⟨rfl, rfl⟩))
    | (go_at_call 21; first | ((with_reducible refine (D4.out _).mono ?_); rintro e w3 ⟨rfl, hb3⟩; have s3 := Lib.hid (s2.out.below hb3); clear hb3) | ((with_reducible refine (D5.out _).mono ?_); rintro e w4 ⟨rfl, hb4⟩; have s4 := Lib.hid (s3.out.below hb4); clear hb4) | ((with_reducible refine (D6.out _).mono ?_); rintro e w5 ⟨rfl, hb5⟩; have s5 := Lib.hid (s4.out.below hb5); clear hb5))
    | (go_at_call 16; first | ((with_reducible refine (awake16 _).mono ?_); rintro e w6 ⟨rfl, hb6⟩; have s6 := Lib.hid (s5.out.below hb6); clear hb6)))
  go_ret
  exact ⟨rfl, s6.out.2.2.2⟩
set_option maxRecDepth 100000 in
set_option maxHeartbeats 1000000 in
theorem apart_NNNA (P R P2 R2 x y : Int) (c : Int) (qc : (c == 0) = false) (HS : ApP P R 0 c) (c2 : Int) (HT : ApP P2 R2 0 c2) (HG : ApF x 0 7) (m2 : Int) (HH : ApF y m2 0) (w : World) :
    Calls Try.prog 7 #[.agg #[.int .i64 P, .int .i64 R], .agg #[.int .i64 P2, .int .i64 R2], .agg #[.int .i64 x, .int .i64 y]] w fun e w' => e = .returned (.bool true) ∧ Below w.heap.size w w' := by
  have s0 := Lib.hid (Box3.new w P R P2 R2 x y)
  
  go_enter Try.func7, Try.ntmps7
  go_wp2_with (first
    | (go_at_call 12; first | ((with_reducible refine (HS.c12 _).mono ?_); rintro e w1 ⟨rfl, hb1⟩; have s1 := Lib.hid (s0.out.below hb1); clear hb1; obtain ⟨-, ⟨q1, q2⟩, -⟩ := s1.out) | ((with_reducible refine (HT.c12 _).mono ?_); rintro e w2 ⟨rfl, hb2⟩; have s2 := Lib.hid (s1.out.below hb2); clear hb2; clear q1 q2; obtain ⟨⟨q3, q4⟩, ⟨q5, q6⟩, ⟨q7, q8⟩, -⟩ := s2.out))
    | (go_at_call 23; first | ((with_reducible refine (HG.c23 _).mono ?_); rintro e w' ⟨rfl, rfl⟩) | ((with_reducible refine (HH.c23 _).mono ?_); rintro e w' ⟨rfl, rfl⟩))
    | (go_at_call 16; first | ((with_reducible refine (awake16 _).mono ?_); rintro e w3 ⟨rfl, hb3⟩; have s3 := Lib.hid (s2.out.below hb3); clear hb3)))
  go_ret
  exact ⟨rfl, s3.out.2.2.2⟩
set_option maxRecDepth 100000 in
set_option maxHeartbeats 1000000 in
theorem apart_NNNN (P R P2 R2 x y : Int) (c : Int) (qc : (c == 0) = false) (HS : ApP P R 0 c) (c2 : Int) (HT : ApP P2 R2 0 c2) (HG : ApF x 0 7) (HH : ApF y 0 7) (w : World) :
    Calls Try.prog 7 #[.agg #[.int .i64 P, .int .i64 R], .agg #[.int .i64 P2, .int .i64 R2], .agg #[.int .i64 x, .int .i64 y]] w fun e w' => e = .returned (.bool true) ∧ Below w.heap.size w w' := by
  have s0 := Lib.hid (Box3.new w P R P2 R2 x y)
  
  go_enter Try.func7, Try.ntmps7
  go_wp2_with (first
    | (go_at_call 12; first | ((with_reducible refine (HS.c12 _).mono ?_); rintro e w1 ⟨rfl, hb1⟩; have s1 := Lib.hid (s0.out.below hb1); clear hb1; obtain ⟨-, ⟨q1, q2⟩, -⟩ := s1.out) | ((with_reducible refine (HT.c12 _).mono ?_); rintro e w2 ⟨rfl, hb2⟩; have s2 := Lib.hid (s1.out.below hb2); clear hb2; clear q1 q2; obtain ⟨⟨q3, q4⟩, ⟨q5, q6⟩, ⟨q7, q8⟩, -⟩ := s2.out))
    | (go_at_call 23; first | ((with_reducible refine (HG.c23 _).mono ?_); rintro e w' ⟨rfl, rfl⟩) | ((with_reducible refine (HH.c23 _).mono ?_); rintro e w' ⟨rfl, rfl⟩))
    | (go_at_call 16; first | ((with_reducible refine (awake16 _).mono ?_); rintro e w3 ⟨rfl, hb3⟩; have s3 := Lib.hid (s2.out.below hb3); clear hb3)))
  go_ret
  exact ⟨rfl, s3.out.2.2.2⟩
theorem apart7 (P R P2 R2 x y : Int) (hP : SI P) (hR : SI R) (hP2 : SI P2) (hR2 : SI R2) (_hx : SI x) (_hy : SI y) (w : World) :
    Calls Try.prog 7 #[.agg #[.int .i64 P, .int .i64 R], .agg #[.int .i64 P2, .int .i64 R2], .agg #[.int .i64 x, .int .i64 y]] w fun e w' => e = .returned (.bool true) ∧ Below w.heap.size w w' := by
  rcases ap_pack hP hR with ⟨hs, HS⟩ | ⟨c, qc, HS⟩ <;> rcases ap_pack hP2 hR2 with ⟨ht, HT⟩ | ⟨c2, qc2, HT⟩ <;> rcases ap_fwd x with ⟨hg, HG⟩ | HG <;> rcases ap_fwd y with ⟨hh, HH⟩ | HH
  · obtain ⟨a, b, HO⟩ := side_obj hs; obtain ⟨d, f, HM⟩ := side_mark hg; exact apart_AAAA P R P2 R2 x y _ a b HS HO _ HT _ d f HG HM _ HH _ (pack_eq hs ht) rfl _ (mark_eq x y) rfl (pack_mark hs) w
  · obtain ⟨a, b, HO⟩ := side_obj hs; obtain ⟨d, f, HM⟩ := side_mark hg; exact apart_AAAN P R P2 R2 x y _ a b HS HO _ HT _ d f HG HM HH _ (pack_eq hs ht) rfl (pack_mark hs) w
  · obtain ⟨a, b, HO⟩ := side_obj hs; exact apart_AANA P R P2 R2 x y _ a b HS HO _ HT HG _ HH _ (pack_eq hs ht) rfl w
  · obtain ⟨a, b, HO⟩ := side_obj hs; exact apart_AANN P R P2 R2 x y _ a b HS HO _ HT HG HH _ (pack_eq hs ht) rfl w
  · obtain ⟨a, b, HO⟩ := side_obj hs; obtain ⟨d, f, HM⟩ := side_mark hg; exact apart_ANAA P R P2 R2 x y _ a b HS HO c2 qc2 HT _ d f HG HM _ HH _ (mark_eq x y) rfl (pack_mark hs) w
  · obtain ⟨a, b, HO⟩ := side_obj hs; obtain ⟨d, f, HM⟩ := side_mark hg; exact apart_ANAN P R P2 R2 x y _ a b HS HO c2 qc2 HT _ d f HG HM HH (pack_mark hs) w
  · obtain ⟨a, b, HO⟩ := side_obj hs; exact apart_ANNA P R P2 R2 x y _ a b HS HO c2 qc2 HT HG _ HH w
  · obtain ⟨a, b, HO⟩ := side_obj hs; exact apart_ANNN P R P2 R2 x y _ a b HS HO c2 qc2 HT HG HH w
  · obtain ⟨d, f, HM⟩ := side_mark hg; exact apart_NAAA P R P2 R2 x y c qc HS _ HT _ d f HG HM _ HH _ (mark_eq x y) rfl w
  · obtain ⟨d, f, HM⟩ := side_mark hg; exact apart_NAAN P R P2 R2 x y c qc HS _ HT _ d f HG HM HH w
  · exact apart_NANA P R P2 R2 x y c qc HS _ HT HG _ HH w
  · exact apart_NANN P R P2 R2 x y c qc HS _ HT HG HH w
  · obtain ⟨d, f, HM⟩ := side_mark hg; exact apart_NNAA P R P2 R2 x y c qc HS c2 HT _ d f HG HM _ HH _ (mark_eq x y) rfl w
  · obtain ⟨d, f, HM⟩ := side_mark hg; exact apart_NNAN P R P2 R2 x y c qc HS c2 HT _ d f HG HM HH w
  · exact apart_NNNA P R P2 R2 x y c qc HS c2 HT HG _ HH w
  · exact apart_NNNN P R P2 R2 x y c qc HS c2 HT HG HH w
end Ytekhkgcdgkfflaa
end Go.Proofs
