/- The law HeaderBack answers true. -/
import Derived.Test.YtekhkgcdgkfflaaHdJ
namespace Go.Proofs
namespace Ytekhkgcdgkfflaa
open Go.RowKit

theorem pack_good {P R : Int} (h : chkV P R = 0) : UI (packE P R) ∧ kindV (packE P R) = 1 ∧ shpP (packE P R) = P ∧ shpR (packE P R) = R ∧ shpE (packE P R) = 0 := by
  obtain ⟨z0, z1, z2⟩ := chk_zero.1 h
  rw [show packE P R = packV P R from if_pos h]
  obtain ⟨u, hu⟩ : ∃ u, packV P R = u := ⟨_, rfl⟩
  rw [hu]
  have hu' := hu
  unfold packV at hu'
  have e1 : u / 256 % 256 = P := by omega
  have e2 : u / 65536 = R := by omega
  have hk : kindV u = 1 := kind_one.2 (obj_spec.2 (by rw [e1, e2]; exact ⟨h, hu⟩))
  exact ⟨⟨by omega, by omega⟩, hk, (if_pos hk).trans e1, (if_pos hk).trans e2, if_pos hk⟩
theorem fwd_good {a : Int} (h : 1 ≤ a ∧ a ≤ 1600) : UI (fwdV a) ∧ kindV (fwdV a) = 2 ∧ tgtV (fwdV a) = a ∧ tgtE (fwdV a) = 0 := by
  rw [show fwdV a = 2 + a * 256 from if_pos h]
  have hk : kindV (2 + a * 256) = 2 := kind_two.2 (by omega)
  exact ⟨⟨by omega, by omega⟩, hk, (if_pos hk).trans (by omega), if_pos hk⟩
theorem shp_back {v : Int} (h : kindV v = 1) : chkV (shpP v) (shpR v) = 0 ∧ packE (shpP v) (shpR v) = v := by
  obtain ⟨h1, h2⟩ := obj_spec.1 (kind_one.1 h)
  rw [show shpP v = v / 256 % 256 from if_pos h, show shpR v = v / 65536 from if_pos h]
  exact ⟨h1, (if_pos h1).trans h2⟩
theorem tgt_back {v : Int} (h : kindV v = 2) : fwdE (tgtV v) = 0 ∧ fwdV (tgtV v) = v := by
  obtain ⟨h1, h2⟩ := kind_two.1 h
  rw [show tgtV v = v / 256 from if_pos h]
  exact ⟨if_pos h2, (if_pos h2).trans (by omega)⟩
def kindB (a b : Bool) : Int := if (a && b) = true then -1 else if a = true then 1 else if b = true then 2 else 0
theorem kind27 (a b : Bool) (w : World) : Calls Try.prog 27 #[.bool a, .bool b] w fun e w' => e = .returned (.int .i64 (kindB a b)) ∧ w = w' := by
  cases a <;> cases b
  all_goals
    go_enter Try.func27, Try.ntmps27
    go_wp2
    go_ret
    exact ⟨rfl, rfl⟩
/-- what the calls answer that the law makes, in each case -/
structure BackA (P R u : Int) : Prop where
  c12 : ∀ W, Calls Try.prog 12 #[.agg #[.int .i64 P, .int .i64 R]] W fun e w' => e = .returned (.tuple #[.int .u64 u, .int .i64 0]) ∧ Below W.heap.size W w'
  c17 : ∀ W, Calls Try.prog 17 #[.int .u64 u] W fun e w' => e = .returned (.tuple #[.agg #[.int .i64 P, .int .i64 R], .int .i64 0]) ∧ Below W.heap.size W w'
  c21 : ∀ W, Calls Try.prog 21 #[.int .u64 u] W fun e w' => e = .returned (.int .i64 1) ∧ Below W.heap.size W w'
structure BackN (P R c : Int) : Prop where
  c12 : ∀ W, Calls Try.prog 12 #[.agg #[.int .i64 P, .int .i64 R]] W fun e w' => e = .returned (.tuple #[.int .u64 0, .int .i64 c]) ∧ Below W.heap.size W w'
structure FwdA (a u : Int) : Prop where
  c23 : ∀ W, Calls Try.prog 23 #[.int .i64 a] W fun e w' => e = .returned (.tuple #[.int .u64 u, .int .i64 0]) ∧ W = w'
  c19 : ∀ W, Calls Try.prog 19 #[.int .u64 u] W fun e w' => e = .returned (.tuple #[.int .i64 a, .int .i64 0]) ∧ Below W.heap.size W w'
  c21 : ∀ W, Calls Try.prog 21 #[.int .u64 u] W fun e w' => e = .returned (.int .i64 2) ∧ Below W.heap.size W w'
structure FwdN (a : Int) : Prop where
  c23 : ∀ W, Calls Try.prog 23 #[.int .i64 a] W fun e w' => e = .returned (.tuple #[.int .u64 0, .int .i64 7]) ∧ W = w'
structure WordO (v p r : Int) : Prop where
  c17 : ∀ W, Calls Try.prog 17 #[.int .u64 v] W fun e w' => e = .returned (.tuple #[.agg #[.int .i64 p, .int .i64 r], .int .i64 0]) ∧ Below W.heap.size W w'
  c12 : ∀ W, Calls Try.prog 12 #[.agg #[.int .i64 p, .int .i64 r]] W fun e w' => e = .returned (.tuple #[.int .u64 v, .int .i64 0]) ∧ Below W.heap.size W w'
  c19 : ∀ W, Calls Try.prog 19 #[.int .u64 v] W fun e w' => e = .returned (.tuple #[.int .i64 0, .int .i64 6]) ∧ Below W.heap.size W w'
  c21 : ∀ W, Calls Try.prog 21 #[.int .u64 v] W fun e w' => e = .returned (.int .i64 1) ∧ Below W.heap.size W w'
structure WordF (v t : Int) : Prop where
  c17 : ∀ W, Calls Try.prog 17 #[.int .u64 v] W fun e w' => e = .returned (.tuple #[.agg #[.int .i64 0, .int .i64 0], .int .i64 6]) ∧ Below W.heap.size W w'
  c19 : ∀ W, Calls Try.prog 19 #[.int .u64 v] W fun e w' => e = .returned (.tuple #[.int .i64 t, .int .i64 0]) ∧ Below W.heap.size W w'
  c23 : ∀ W, Calls Try.prog 23 #[.int .i64 t] W fun e w' => e = .returned (.tuple #[.int .u64 v, .int .i64 0]) ∧ W = w'
  c21 : ∀ W, Calls Try.prog 21 #[.int .u64 v] W fun e w' => e = .returned (.int .i64 2) ∧ Below W.heap.size W w'
structure WordN (v : Int) : Prop where
  c17 : ∀ W, Calls Try.prog 17 #[.int .u64 v] W fun e w' => e = .returned (.tuple #[.agg #[.int .i64 0, .int .i64 0], .int .i64 6]) ∧ Below W.heap.size W w'
  c19 : ∀ W, Calls Try.prog 19 #[.int .u64 v] W fun e w' => e = .returned (.tuple #[.int .i64 0, .int .i64 6]) ∧ Below W.heap.size W w'
  c21 : ∀ W, Calls Try.prog 21 #[.int .u64 v] W fun e w' => e = .returned (.int .i64 0) ∧ Below W.heap.size W w'
theorem back_cases {P R : Int} (hP : SI P) (hR : SI R) : (∃ u, BackA P R u) ∨ ∃ c, (c == 0) = false ∧ BackN P R c := by
  by_cases h : chkV P R = 0
  · left
    obtain ⟨hu, h1, h2, h3, h4⟩ := pack_good h
    refine ⟨packE P R, ?_, ?_, ?_⟩
    · intro W; have := pack12 P R hP hR W; rwa [h] at this
    · intro W; have := shp17 _ hu W; rwa [h2, h3, h4] at this
    · intro W; have := kind21 _ hu W; rwa [h1] at this
  · right
    refine ⟨chkV P R, by simpa using h, ⟨fun W => ?_⟩⟩
    have := pack12 P R hP hR W; rwa [show packE P R = 0 from if_neg h] at this
theorem fwd_cases (a : Int) : (∃ u, FwdA a u) ∨ FwdN a := by
  by_cases h : 1 ≤ a ∧ a ≤ 1600
  · left
    obtain ⟨hu, h1, h2, h3⟩ := fwd_good h
    refine ⟨fwdV a, ?_, ?_, ?_⟩
    · intro W; have := fwd23 a W; rwa [show fwdE a = 0 from if_pos h] at this
    · intro W; have := tgt19 _ hu W; rwa [h2, h3] at this
    · intro W; have := kind21 _ hu W; rwa [h1] at this
  · right
    refine ⟨fun W => ?_⟩
    have := fwd23 a W; rwa [show fwdE a = 7 from if_neg h, show fwdV a = 0 from if_neg h] at this
theorem word_cases {v : Int} (hv : UI v) : (∃ p r, WordO v p r) ∨ (∃ t, WordF v t) ∨ WordN v := by
  have hsi := si_shape hv
  rcases kind_range v with h | h | h
  · right; right
    refine ⟨fun W => ?_, fun W => ?_, fun W => ?_⟩
    · have := shp17 v hv W; rwa [show shpP v = 0 from if_neg (by omega), show shpR v = 0 from if_neg (by omega), show shpE v = 6 from if_neg (by omega)] at this
    · have := tgt19 v hv W; rwa [show tgtV v = 0 from if_neg (by omega), show tgtE v = 6 from if_neg (by omega)] at this
    · have := kind21 v hv W; rwa [h] at this
  · left
    obtain ⟨h1, h2⟩ := shp_back h
    refine ⟨shpP v, shpR v, fun W => ?_, fun W => ?_, fun W => ?_, fun W => ?_⟩
    · have := shp17 v hv W; rwa [show shpE v = 0 from if_pos h] at this
    · have := pack12 (shpP v) (shpR v) (by rw [show shpP v = v / 256 % 256 from if_pos h]; exact hsi.1) (by rw [show shpR v = v / 65536 from if_pos h]; exact hsi.2) W; rwa [h1, h2] at this
    · have := tgt19 v hv W; rwa [show tgtV v = 0 from if_neg (by omega), show tgtE v = 6 from if_neg (by omega)] at this
    · have := kind21 v hv W; rwa [h] at this
  · right; left
    obtain ⟨h1, h2⟩ := tgt_back h
    refine ⟨tgtV v, fun W => ?_, fun W => ?_, fun W => ?_, fun W => ?_⟩
    · have := shp17 v hv W; rwa [show shpP v = 0 from if_neg (by omega), show shpR v = 0 from if_neg (by omega), show shpE v = 6 from if_neg (by omega)] at this
    · have := tgt19 v hv W; rwa [show tgtE v = 0 from if_pos h] at this
    · have := fwd23 (tgtV v) W; rwa [h1, h2] at this
    · have := kind21 v hv W; rwa [h] at this

set_option maxRecDepth 100000 in
set_option maxHeartbeats 1000000 in
theorem back_AAO (P R a v : Int) (u : Int) (HA : BackA P R u) (m : Int) (HF : FwdA a m) (p r : Int) (HV : WordO v p r) (w : World) :
    Calls Try.prog 6 #[.agg #[.int .i64 P, .int .i64 R], .int .i64 a, .int .u64 v] w fun e w' => e = .returned (.bool true) ∧ Below w.heap.size w w' := by
  have s0 := Lib.hid (box_new w P R)
  have hq := fun W => neq23 P R P R W
  simp only [same_refl, Bool.not_true] at hq
  have k1 : kindB true false = 1 := rfl
  have k2 : kindB false true = 2 := rfl
  have k3 : kindB false false = 0 := rfl
  go_enter Try.func6, Try.ntmps6
  go_wp2_with (first
    | (go_at_call 12; first | ((with_reducible refine (HA.c12 _).mono ?_); rintro e w1 ⟨rfl, hb1⟩; have s1 := Lib.hid (box_below s0.out hb1); clear hb1) | ((with_reducible refine (HV.c12 _).mono ?_); rintro e w7 ⟨rfl, hb7⟩; have s7 := Lib.hid (box_below s6.out (below_end (alloc_below _ _) hb7)); clear hb7))
    | (go_at_call 17; first | ((with_reducible refine (HA.c17 _).mono ?_); rintro e w2 ⟨rfl, hb2⟩; have s2 := Lib.hid (box_below s1.out hb2); clear hb2; obtain ⟨qa, qb, qz, _⟩ := s2.out) | ((with_reducible refine (HV.c17 _).mono ?_); rintro e w6 ⟨rfl, hb6⟩; have s6 := Lib.hid (box_below s5.out hb6); clear hb6))
    | (go_at_call 21; first | ((with_reducible refine (HA.c21 _).mono ?_); rintro e w3 ⟨rfl, hb3⟩; have s3 := Lib.hid (box_below s2.out (below_end (alloc_below _ _) hb3)); clear hb3; clear qa qb qz) | ((with_reducible refine (HF.c21 _).mono ?_); rintro e w5 ⟨rfl, hb5⟩; have s5 := Lib.hid (box_below s4.out hb5); clear hb5) | ((with_reducible refine (HV.c21 _).mono ?_); rintro e w9 ⟨rfl, hb9⟩; have s9 := Lib.hid (box_below s8.out hb9); clear hb9))
    | (go_at_call 23; first | ((with_reducible refine (HF.c23 _).mono ?_); rintro e w' ⟨rfl, rfl⟩))
    | (go_at_call 19; first | ((with_reducible refine (HF.c19 _).mono ?_); rintro e w4 ⟨rfl, hb4⟩; have s4 := Lib.hid (box_below s3.out hb4); clear hb4) | ((with_reducible refine (HV.c19 _).mono ?_); rintro e w8 ⟨rfl, hb8⟩; have s8 := Lib.hid (box_below s7.out hb8); clear hb8))
    | (go_at_call 27; first | ((refine (kind27 _ _ _).mono ?_); rintro e w' ⟨rfl, rfl⟩))
    | (go_at_call 16; first | ((with_reducible refine (awake16 _).mono ?_); rintro e w10 ⟨rfl, hb10⟩; have s10 := Lib.hid (box_below s9.out hb10); clear hb10)))
  go_ret
  exact ⟨rfl, s10.out.2.2.2⟩
set_option maxRecDepth 100000 in
set_option maxHeartbeats 1000000 in
theorem back_AAF (P R a v : Int) (u : Int) (HA : BackA P R u) (m : Int) (HF : FwdA a m) (t : Int) (HV : WordF v t) (w : World) :
    Calls Try.prog 6 #[.agg #[.int .i64 P, .int .i64 R], .int .i64 a, .int .u64 v] w fun e w' => e = .returned (.bool true) ∧ Below w.heap.size w w' := by
  have s0 := Lib.hid (box_new w P R)
  have hq := fun W => neq23 P R P R W
  simp only [same_refl, Bool.not_true] at hq
  have k1 : kindB true false = 1 := rfl
  have k2 : kindB false true = 2 := rfl
  have k3 : kindB false false = 0 := rfl
  go_enter Try.func6, Try.ntmps6
  go_wp2_with (first
    | (go_at_call 12; first | ((with_reducible refine (HA.c12 _).mono ?_); rintro e w1 ⟨rfl, hb1⟩; have s1 := Lib.hid (box_below s0.out hb1); clear hb1))
    | (go_at_call 17; first | ((with_reducible refine (HA.c17 _).mono ?_); rintro e w2 ⟨rfl, hb2⟩; have s2 := Lib.hid (box_below s1.out hb2); clear hb2; obtain ⟨qa, qb, qz, _⟩ := s2.out) | ((with_reducible refine (HV.c17 _).mono ?_); rintro e w6 ⟨rfl, hb6⟩; have s6 := Lib.hid (box_below s5.out hb6); clear hb6))
    | (go_at_call 21; first | ((with_reducible refine (HA.c21 _).mono ?_); rintro e w3 ⟨rfl, hb3⟩; have s3 := Lib.hid (box_below s2.out (below_end (alloc_below _ _) hb3)); clear hb3; clear qa qb qz) | ((with_reducible refine (HF.c21 _).mono ?_); rintro e w5 ⟨rfl, hb5⟩; have s5 := Lib.hid (box_below s4.out hb5); clear hb5) | ((with_reducible refine (HV.c21 _).mono ?_); rintro e w8 ⟨rfl, hb8⟩; have s8 := Lib.hid (box_below s7.out hb8); clear hb8))
    | (go_at_call 23; first | ((with_reducible refine (HF.c23 _).mono ?_); rintro e w' ⟨rfl, rfl⟩) | ((with_reducible refine (HV.c23 _).mono ?_); rintro e w' ⟨rfl, rfl⟩))
    | (go_at_call 19; first | ((with_reducible refine (HF.c19 _).mono ?_); rintro e w4 ⟨rfl, hb4⟩; have s4 := Lib.hid (box_below s3.out hb4); clear hb4) | ((with_reducible refine (HV.c19 _).mono ?_); rintro e w7 ⟨rfl, hb7⟩; have s7 := Lib.hid (box_below s6.out (below_end (alloc_below _ _) hb7)); clear hb7))
    | (go_at_call 27; first | ((refine (kind27 _ _ _).mono ?_); rintro e w' ⟨rfl, rfl⟩))
    | (go_at_call 16; first | ((with_reducible refine (awake16 _).mono ?_); rintro e w9 ⟨rfl, hb9⟩; have s9 := Lib.hid (box_below s8.out hb9); clear hb9)))
  go_ret
  exact ⟨rfl, s9.out.2.2.2⟩
set_option maxRecDepth 100000 in
set_option maxHeartbeats 1000000 in
theorem back_AAN (P R a v : Int) (u : Int) (HA : BackA P R u) (m : Int) (HF : FwdA a m) (HV : WordN v) (w : World) :
    Calls Try.prog 6 #[.agg #[.int .i64 P, .int .i64 R], .int .i64 a, .int .u64 v] w fun e w' => e = .returned (.bool true) ∧ Below w.heap.size w w' := by
  have s0 := Lib.hid (box_new w P R)
  have hq := fun W => neq23 P R P R W
  simp only [same_refl, Bool.not_true] at hq
  have k1 : kindB true false = 1 := rfl
  have k2 : kindB false true = 2 := rfl
  have k3 : kindB false false = 0 := rfl
  go_enter Try.func6, Try.ntmps6
  go_wp2_with (first
    | (go_at_call 12; first | ((with_reducible refine (HA.c12 _).mono ?_); rintro e w1 ⟨rfl, hb1⟩; have s1 := Lib.hid (box_below s0.out hb1); clear hb1))
    | (go_at_call 17; first | ((with_reducible refine (HA.c17 _).mono ?_); rintro e w2 ⟨rfl, hb2⟩; have s2 := Lib.hid (box_below s1.out hb2); clear hb2; obtain ⟨qa, qb, qz, _⟩ := s2.out) | ((with_reducible refine (HV.c17 _).mono ?_); rintro e w6 ⟨rfl, hb6⟩; have s6 := Lib.hid (box_below s5.out hb6); clear hb6))
    | (go_at_call 21; first | ((with_reducible refine (HA.c21 _).mono ?_); rintro e w3 ⟨rfl, hb3⟩; have s3 := Lib.hid (box_below s2.out (below_end (alloc_below _ _) hb3)); clear hb3; clear qa qb qz) | ((with_reducible refine (HF.c21 _).mono ?_); rintro e w5 ⟨rfl, hb5⟩; have s5 := Lib.hid (box_below s4.out hb5); clear hb5) | ((with_reducible refine (HV.c21 _).mono ?_); rintro e w8 ⟨rfl, hb8⟩; have s8 := Lib.hid (box_below s7.out hb8); clear hb8))
    | (go_at_call 23; first | ((with_reducible refine (HF.c23 _).mono ?_); rintro e w' ⟨rfl, rfl⟩))
    | (go_at_call 19; first | ((with_reducible refine (HF.c19 _).mono ?_); rintro e w4 ⟨rfl, hb4⟩; have s4 := Lib.hid (box_below s3.out hb4); clear hb4) | ((with_reducible refine (HV.c19 _).mono ?_); rintro e w7 ⟨rfl, hb7⟩; have s7 := Lib.hid (box_below s6.out (below_end (alloc_below _ _) hb7)); clear hb7))
    | (go_at_call 27; first | ((refine (kind27 _ _ _).mono ?_); rintro e w' ⟨rfl, rfl⟩))
    | (go_at_call 16; first | ((with_reducible refine (awake16 _).mono ?_); rintro e w9 ⟨rfl, hb9⟩; have s9 := Lib.hid (box_below s8.out hb9); clear hb9)))
  go_ret
  exact ⟨rfl, s9.out.2.2.2⟩
set_option maxRecDepth 100000 in
set_option maxHeartbeats 1000000 in
theorem back_ANO (P R a v : Int) (u : Int) (HA : BackA P R u) (HF : FwdN a) (p r : Int) (HV : WordO v p r) (w : World) :
    Calls Try.prog 6 #[.agg #[.int .i64 P, .int .i64 R], .int .i64 a, .int .u64 v] w fun e w' => e = .returned (.bool true) ∧ Below w.heap.size w w' := by
  have s0 := Lib.hid (box_new w P R)
  have hq := fun W => neq23 P R P R W
  simp only [same_refl, Bool.not_true] at hq
  have k1 : kindB true false = 1 := rfl
  have k2 : kindB false true = 2 := rfl
  have k3 : kindB false false = 0 := rfl
  go_enter Try.func6, Try.ntmps6
  go_wp2_with (first
    | (go_at_call 12; first | ((with_reducible refine (HA.c12 _).mono ?_); rintro e w1 ⟨rfl, hb1⟩; have s1 := Lib.hid (box_below s0.out hb1); clear hb1) | ((with_reducible refine (HV.c12 _).mono ?_); rintro e w5 ⟨rfl, hb5⟩; have s5 := Lib.hid (box_below s4.out (below_end (alloc_below _ _) hb5)); clear hb5))
    | (go_at_call 17; first | ((with_reducible refine (HA.c17 _).mono ?_); rintro e w2 ⟨rfl, hb2⟩; have s2 := Lib.hid (box_below s1.out hb2); clear hb2; obtain ⟨qa, qb, qz, _⟩ := s2.out) | ((with_reducible refine (HV.c17 _).mono ?_); rintro e w4 ⟨rfl, hb4⟩; have s4 := Lib.hid (box_below s3.out hb4); clear hb4))
    | (go_at_call 21; first | ((with_reducible refine (HA.c21 _).mono ?_); rintro e w3 ⟨rfl, hb3⟩; have s3 := Lib.hid (box_below s2.out (below_end (alloc_below _ _) hb3)); clear hb3; clear qa qb qz) | ((with_reducible refine (HV.c21 _).mono ?_); rintro e w7 ⟨rfl, hb7⟩; have s7 := Lib.hid (box_below s6.out hb7); clear hb7))
    | (go_at_call 23; first | ((with_reducible refine (HF.c23 _).mono ?_); rintro e w' ⟨rfl, rfl⟩))
    | (go_at_call 19; first | ((with_reducible refine (HV.c19 _).mono ?_); rintro e w6 ⟨rfl, hb6⟩; have s6 := Lib.hid (box_below s5.out hb6); clear hb6))
    | (go_at_call 27; first | ((refine (kind27 _ _ _).mono ?_); rintro e w' ⟨rfl, rfl⟩))
    | (go_at_call 16; first | ((with_reducible refine (awake16 _).mono ?_); rintro e w8 ⟨rfl, hb8⟩; have s8 := Lib.hid (box_below s7.out hb8); clear hb8)))
  go_ret
  exact ⟨rfl, s8.out.2.2.2⟩
set_option maxRecDepth 100000 in
set_option maxHeartbeats 1000000 in
theorem back_ANF (P R a v : Int) (u : Int) (HA : BackA P R u) (HF : FwdN a) (t : Int) (HV : WordF v t) (w : World) :
    Calls Try.prog 6 #[.agg #[.int .i64 P, .int .i64 R], .int .i64 a, .int .u64 v] w fun e w' => e = .returned (.bool true) ∧ Below w.heap.size w w' := by
  have s0 := Lib.hid (box_new w P R)
  have hq := fun W => neq23 P R P R W
  simp only [same_refl, Bool.not_true] at hq
  have k1 : kindB true false = 1 := rfl
  have k2 : kindB false true = 2 := rfl
  have k3 : kindB false false = 0 := rfl
  go_enter Try.func6, Try.ntmps6
  go_wp2_with (first
    | (go_at_call 12; first | ((with_reducible refine (HA.c12 _).mono ?_); rintro e w1 ⟨rfl, hb1⟩; have s1 := Lib.hid (box_below s0.out hb1); clear hb1))
    | (go_at_call 17; first | ((with_reducible refine (HA.c17 _).mono ?_); rintro e w2 ⟨rfl, hb2⟩; have s2 := Lib.hid (box_below s1.out hb2); clear hb2; obtain ⟨qa, qb, qz, _⟩ := s2.out) | ((with_reducible refine (HV.c17 _).mono ?_); rintro e w4 ⟨rfl, hb4⟩; have s4 := Lib.hid (box_below s3.out hb4); clear hb4))
    | (go_at_call 21; first | ((with_reducible refine (HA.c21 _).mono ?_); rintro e w3 ⟨rfl, hb3⟩; have s3 := Lib.hid (box_below s2.out (below_end (alloc_below _ _) hb3)); clear hb3; clear qa qb qz) | ((with_reducible refine (HV.c21 _).mono ?_); rintro e w6 ⟨rfl, hb6⟩; have s6 := Lib.hid (box_below s5.out hb6); clear hb6))
    | (go_at_call 23; first | ((with_reducible refine (HF.c23 _).mono ?_); rintro e w' ⟨rfl, rfl⟩) | ((with_reducible refine (HV.c23 _).mono ?_); rintro e w' ⟨rfl, rfl⟩))
    | (go_at_call 19; first | ((with_reducible refine (HV.c19 _).mono ?_); rintro e w5 ⟨rfl, hb5⟩; have s5 := Lib.hid (box_below s4.out (below_end (alloc_below _ _) hb5)); clear hb5))
    | (go_at_call 27; first | ((refine (kind27 _ _ _).mono ?_); rintro e w' ⟨rfl, rfl⟩))
    | (go_at_call 16; first | ((with_reducible refine (awake16 _).mono ?_); rintro e w7 ⟨rfl, hb7⟩; have s7 := Lib.hid (box_below s6.out hb7); clear hb7)))
  go_ret
  exact ⟨rfl, s7.out.2.2.2⟩
set_option maxRecDepth 100000 in
set_option maxHeartbeats 1000000 in
theorem back_ANN (P R a v : Int) (u : Int) (HA : BackA P R u) (HF : FwdN a) (HV : WordN v) (w : World) :
    Calls Try.prog 6 #[.agg #[.int .i64 P, .int .i64 R], .int .i64 a, .int .u64 v] w fun e w' => e = .returned (.bool true) ∧ Below w.heap.size w w' := by
  have s0 := Lib.hid (box_new w P R)
  have hq := fun W => neq23 P R P R W
  simp only [same_refl, Bool.not_true] at hq
  have k1 : kindB true false = 1 := rfl
  have k2 : kindB false true = 2 := rfl
  have k3 : kindB false false = 0 := rfl
  go_enter Try.func6, Try.ntmps6
  go_wp2_with (first
    | (go_at_call 12; first | ((with_reducible refine (HA.c12 _).mono ?_); rintro e w1 ⟨rfl, hb1⟩; have s1 := Lib.hid (box_below s0.out hb1); clear hb1))
    | (go_at_call 17; first | ((with_reducible refine (HA.c17 _).mono ?_); rintro e w2 ⟨rfl, hb2⟩; have s2 := Lib.hid (box_below s1.out hb2); clear hb2; obtain ⟨qa, qb, qz, _⟩ := s2.out) | ((with_reducible refine (HV.c17 _).mono ?_); rintro e w4 ⟨rfl, hb4⟩; have s4 := Lib.hid (box_below s3.out hb4); clear hb4))
    | (go_at_call 21; first | ((with_reducible refine (HA.c21 _).mono ?_); rintro e w3 ⟨rfl, hb3⟩; have s3 := Lib.hid (box_below s2.out (below_end (alloc_below _ _) hb3)); clear hb3; clear qa qb qz) | ((with_reducible refine (HV.c21 _).mono ?_); rintro e w6 ⟨rfl, hb6⟩; have s6 := Lib.hid (box_below s5.out hb6); clear hb6))
    | (go_at_call 23; first | ((with_reducible refine (HF.c23 _).mono ?_); rintro e w' ⟨rfl, rfl⟩))
    | (go_at_call 19; first | ((with_reducible refine (HV.c19 _).mono ?_); rintro e w5 ⟨rfl, hb5⟩; have s5 := Lib.hid (box_below s4.out (below_end (alloc_below _ _) hb5)); clear hb5))
    | (go_at_call 27; first | ((refine (kind27 _ _ _).mono ?_); rintro e w' ⟨rfl, rfl⟩))
    | (go_at_call 16; first | ((with_reducible refine (awake16 _).mono ?_); rintro e w7 ⟨rfl, hb7⟩; have s7 := Lib.hid (box_below s6.out hb7); clear hb7)))
  go_ret
  exact ⟨rfl, s7.out.2.2.2⟩
set_option maxRecDepth 100000 in
set_option maxHeartbeats 1000000 in
theorem back_NAO (P R a v : Int) (c : Int) (qc : (c == 0) = false) (HA : BackN P R c) (m : Int) (HF : FwdA a m) (p r : Int) (HV : WordO v p r) (w : World) :
    Calls Try.prog 6 #[.agg #[.int .i64 P, .int .i64 R], .int .i64 a, .int .u64 v] w fun e w' => e = .returned (.bool true) ∧ Below w.heap.size w w' := by
  have s0 := Lib.hid (box_new w P R)
  have hq := fun W => neq23 P R P R W
  simp only [same_refl, Bool.not_true] at hq
  have k1 : kindB true false = 1 := rfl
  have k2 : kindB false true = 2 := rfl
  have k3 : kindB false false = 0 := rfl
  go_enter Try.func6, Try.ntmps6
  go_wp2_with (first
    | (go_at_call 12; first | ((with_reducible refine (HA.c12 _).mono ?_); rintro e w1 ⟨rfl, hb1⟩; have s1 := Lib.hid (box_below s0.out hb1); clear hb1) | ((with_reducible refine (HV.c12 _).mono ?_); rintro e w5 ⟨rfl, hb5⟩; have s5 := Lib.hid (box_below s4.out (below_end (alloc_below _ _) hb5)); clear hb5))
    | (go_at_call 23; first | ((with_reducible refine (HF.c23 _).mono ?_); rintro e w' ⟨rfl, rfl⟩))
    | (go_at_call 19; first | ((with_reducible refine (HF.c19 _).mono ?_); rintro e w2 ⟨rfl, hb2⟩; have s2 := Lib.hid (box_below s1.out hb2); clear hb2) | ((with_reducible refine (HV.c19 _).mono ?_); rintro e w6 ⟨rfl, hb6⟩; have s6 := Lib.hid (box_below s5.out hb6); clear hb6))
    | (go_at_call 21; first | ((with_reducible refine (HF.c21 _).mono ?_); rintro e w3 ⟨rfl, hb3⟩; have s3 := Lib.hid (box_below s2.out hb3); clear hb3) | ((with_reducible refine (HV.c21 _).mono ?_); rintro e w7 ⟨rfl, hb7⟩; have s7 := Lib.hid (box_below s6.out hb7); clear hb7))
    | (go_at_call 17; first | ((with_reducible refine (HV.c17 _).mono ?_); rintro e w4 ⟨rfl, hb4⟩; have s4 := Lib.hid (box_below s3.out hb4); clear hb4))
    | (go_at_call 27; first | ((refine (kind27 _ _ _).mono ?_); rintro e w' ⟨rfl, rfl⟩))
    | (go_at_call 16; first | ((with_reducible refine (awake16 _).mono ?_); rintro e w8 ⟨rfl, hb8⟩; have s8 := Lib.hid (box_below s7.out hb8); clear hb8)))
  go_ret
  exact ⟨rfl, s8.out.2.2.2⟩
set_option maxRecDepth 100000 in
set_option maxHeartbeats 1000000 in
theorem back_NAF (P R a v : Int) (c : Int) (qc : (c == 0) = false) (HA : BackN P R c) (m : Int) (HF : FwdA a m) (t : Int) (HV : WordF v t) (w : World) :
    Calls Try.prog 6 #[.agg #[.int .i64 P, .int .i64 R], .int .i64 a, .int .u64 v] w fun e w' => e = .returned (.bool true) ∧ Below w.heap.size w w' := by
  have s0 := Lib.hid (box_new w P R)
  have hq := fun W => neq23 P R P R W
  simp only [same_refl, Bool.not_true] at hq
  have k1 : kindB true false = 1 := rfl
  have k2 : kindB false true = 2 := rfl
  have k3 : kindB false false = 0 := rfl
  go_enter Try.func6, Try.ntmps6
  go_wp2_with (first
    | (go_at_call 12; first | ((with_reducible refine (HA.c12 _).mono ?_); rintro e w1 ⟨rfl, hb1⟩; have s1 := Lib.hid (box_below s0.out hb1); clear hb1))
    | (go_at_call 23; first | ((with_reducible refine (HF.c23 _).mono ?_); rintro e w' ⟨rfl, rfl⟩) | ((with_reducible refine (HV.c23 _).mono ?_); rintro e w' ⟨rfl, rfl⟩))
    | (go_at_call 19; first | ((with_reducible refine (HF.c19 _).mono ?_); rintro e w2 ⟨rfl, hb2⟩; have s2 := Lib.hid (box_below s1.out hb2); clear hb2) | ((with_reducible refine (HV.c19 _).mono ?_); rintro e w5 ⟨rfl, hb5⟩; have s5 := Lib.hid (box_below s4.out (below_end (alloc_below _ _) hb5)); clear hb5))
    | (go_at_call 21; first | ((with_reducible refine (HF.c21 _).mono ?_); rintro e w3 ⟨rfl, hb3⟩; have s3 := Lib.hid (box_below s2.out hb3); clear hb3) | ((with_reducible refine (HV.c21 _).mono ?_); rintro e w6 ⟨rfl, hb6⟩; have s6 := Lib.hid (box_below s5.out hb6); clear hb6))
    | (go_at_call 17; first | ((with_reducible refine (HV.c17 _).mono ?_); rintro e w4 ⟨rfl, hb4⟩; have s4 := Lib.hid (box_below s3.out hb4); clear hb4))
    | (go_at_call 27; first | ((refine (kind27 _ _ _).mono ?_); rintro e w' ⟨rfl, rfl⟩))
    | (go_at_call 16; first | ((with_reducible refine (awake16 _).mono ?_); rintro e w7 ⟨rfl, hb7⟩; have s7 := Lib.hid (box_below s6.out hb7); clear hb7)))
  go_ret
  exact ⟨rfl, s7.out.2.2.2⟩
set_option maxRecDepth 100000 in
set_option maxHeartbeats 1000000 in
theorem back_NAN (P R a v : Int) (c : Int) (qc : (c == 0) = false) (HA : BackN P R c) (m : Int) (HF : FwdA a m) (HV : WordN v) (w : World) :
    Calls Try.prog 6 #[.agg #[.int .i64 P, .int .i64 R], .int .i64 a, .int .u64 v] w fun e w' => e = .returned (.bool true) ∧ Below w.heap.size w w' := by
  have s0 := Lib.hid (box_new w P R)
  have hq := fun W => neq23 P R P R W
  simp only [same_refl, Bool.not_true] at hq
  have k1 : kindB true false = 1 := rfl
  have k2 : kindB false true = 2 := rfl
  have k3 : kindB false false = 0 := rfl
  go_enter Try.func6, Try.ntmps6
  go_wp2_with (first
    | (go_at_call 12; first | ((with_reducible refine (HA.c12 _).mono ?_); rintro e w1 ⟨rfl, hb1⟩; have s1 := Lib.hid (box_below s0.out hb1); clear hb1))
    | (go_at_call 23; first | ((with_reducible refine (HF.c23 _).mono ?_); rintro e w' ⟨rfl, rfl⟩))
    | (go_at_call 19; first | ((with_reducible refine (HF.c19 _).mono ?_); rintro e w2 ⟨rfl, hb2⟩; have s2 := Lib.hid (box_below s1.out hb2); clear hb2) | ((with_reducible refine (HV.c19 _).mono ?_); rintro e w5 ⟨rfl, hb5⟩; have s5 := Lib.hid (box_below s4.out (below_end (alloc_below _ _) hb5)); clear hb5))
    | (go_at_call 21; first | ((with_reducible refine (HF.c21 _).mono ?_); rintro e w3 ⟨rfl, hb3⟩; have s3 := Lib.hid (box_below s2.out hb3); clear hb3) | ((with_reducible refine (HV.c21 _).mono ?_); rintro e w6 ⟨rfl, hb6⟩; have s6 := Lib.hid (box_below s5.out hb6); clear hb6))
    | (go_at_call 17; first | ((with_reducible refine (HV.c17 _).mono ?_); rintro e w4 ⟨rfl, hb4⟩; have s4 := Lib.hid (box_below s3.out hb4); clear hb4))
    | (go_at_call 27; first | ((refine (kind27 _ _ _).mono ?_); rintro e w' ⟨rfl, rfl⟩))
    | (go_at_call 16; first | ((with_reducible refine (awake16 _).mono ?_); rintro e w7 ⟨rfl, hb7⟩; have s7 := Lib.hid (box_below s6.out hb7); clear hb7)))
  go_ret
  exact ⟨rfl, s7.out.2.2.2⟩
set_option maxRecDepth 100000 in
set_option maxHeartbeats 1000000 in
theorem back_NNO (P R a v : Int) (c : Int) (qc : (c == 0) = false) (HA : BackN P R c) (HF : FwdN a) (p r : Int) (HV : WordO v p r) (w : World) :
    Calls Try.prog 6 #[.agg #[.int .i64 P, .int .i64 R], .int .i64 a, .int .u64 v] w fun e w' => e = .returned (.bool true) ∧ Below w.heap.size w w' := by
  have s0 := Lib.hid (box_new w P R)
  have hq := fun W => neq23 P R P R W
  simp only [same_refl, Bool.not_true] at hq
  have k1 : kindB true false = 1 := rfl
  have k2 : kindB false true = 2 := rfl
  have k3 : kindB false false = 0 := rfl
  go_enter Try.func6, Try.ntmps6
  go_wp2_with (first
    | (go_at_call 12; first | ((with_reducible refine (HA.c12 _).mono ?_); rintro e w1 ⟨rfl, hb1⟩; have s1 := Lib.hid (box_below s0.out hb1); clear hb1) | ((with_reducible refine (HV.c12 _).mono ?_); rintro e w3 ⟨rfl, hb3⟩; have s3 := Lib.hid (box_below s2.out (below_end (alloc_below _ _) hb3)); clear hb3))
    | (go_at_call 23; first | ((with_reducible refine (HF.c23 _).mono ?_); rintro e w' ⟨rfl, rfl⟩))
    | (go_at_call 17; first | ((with_reducible refine (HV.c17 _).mono ?_); rintro e w2 ⟨rfl, hb2⟩; have s2 := Lib.hid (box_below s1.out hb2); clear hb2))
    | (go_at_call 19; first | ((with_reducible refine (HV.c19 _).mono ?_); rintro e w4 ⟨rfl, hb4⟩; have s4 := Lib.hid (box_below s3.out hb4); clear hb4))
    | (go_at_call 21; first | ((with_reducible refine (HV.c21 _).mono ?_); rintro e w5 ⟨rfl, hb5⟩; have s5 := Lib.hid (box_below s4.out hb5); clear hb5))
    | (go_at_call 27; first | ((refine (kind27 _ _ _).mono ?_); rintro e w' ⟨rfl, rfl⟩))
    | (go_at_call 16; first | ((with_reducible refine (awake16 _).mono ?_); rintro e w6 ⟨rfl, hb6⟩; have s6 := Lib.hid (box_below s5.out hb6); clear hb6)))
  go_ret
  exact ⟨rfl, s6.out.2.2.2⟩
set_option maxRecDepth 100000 in
set_option maxHeartbeats 1000000 in
theorem back_NNF (P R a v : Int) (c : Int) (qc : (c == 0) = false) (HA : BackN P R c) (HF : FwdN a) (t : Int) (HV : WordF v t) (w : World) :
    Calls Try.prog 6 #[.agg #[.int .i64 P, .int .i64 R], .int .i64 a, .int .u64 v] w fun e w' => e = .returned (.bool true) ∧ Below w.heap.size w w' := by
  have s0 := Lib.hid (box_new w P R)
  have hq := fun W => neq23 P R P R W
  simp only [same_refl, Bool.not_true] at hq
  have k1 : kindB true false = 1 := rfl
  have k2 : kindB false true = 2 := rfl
  have k3 : kindB false false = 0 := rfl
  go_enter Try.func6, Try.ntmps6
  go_wp2_with (first
    | (go_at_call 12; first | ((with_reducible refine (HA.c12 _).mono ?_); rintro e w1 ⟨rfl, hb1⟩; have s1 := Lib.hid (box_below s0.out hb1); clear hb1))
    | (go_at_call 23; first | ((with_reducible refine (HF.c23 _).mono ?_); rintro e w' ⟨rfl, rfl⟩) | ((with_reducible refine (HV.c23 _).mono ?_); rintro e w' ⟨rfl, rfl⟩))
    | (go_at_call 17; first | ((with_reducible refine (HV.c17 _).mono ?_); rintro e w2 ⟨rfl, hb2⟩; have s2 := Lib.hid (box_below s1.out hb2); clear hb2))
    | (go_at_call 19; first | ((with_reducible refine (HV.c19 _).mono ?_); rintro e w3 ⟨rfl, hb3⟩; have s3 := Lib.hid (box_below s2.out (below_end (alloc_below _ _) hb3)); clear hb3))
    | (go_at_call 21; first | ((with_reducible refine (HV.c21 _).mono ?_); rintro e w4 ⟨rfl, hb4⟩; have s4 := Lib.hid (box_below s3.out hb4); clear hb4))
    | (go_at_call 27; first | ((refine (kind27 _ _ _).mono ?_); rintro e w' ⟨rfl, rfl⟩))
    | (go_at_call 16; first | ((with_reducible refine (awake16 _).mono ?_); rintro e w5 ⟨rfl, hb5⟩; have s5 := Lib.hid (box_below s4.out hb5); clear hb5)))
  go_ret
  exact ⟨rfl, s5.out.2.2.2⟩
set_option maxRecDepth 100000 in
set_option maxHeartbeats 1000000 in
theorem back_NNN (P R a v : Int) (c : Int) (qc : (c == 0) = false) (HA : BackN P R c) (HF : FwdN a) (HV : WordN v) (w : World) :
    Calls Try.prog 6 #[.agg #[.int .i64 P, .int .i64 R], .int .i64 a, .int .u64 v] w fun e w' => e = .returned (.bool true) ∧ Below w.heap.size w w' := by
  have s0 := Lib.hid (box_new w P R)
  have hq := fun W => neq23 P R P R W
  simp only [same_refl, Bool.not_true] at hq
  have k1 : kindB true false = 1 := rfl
  have k2 : kindB false true = 2 := rfl
  have k3 : kindB false false = 0 := rfl
  go_enter Try.func6, Try.ntmps6
  go_wp2_with (first
    | (go_at_call 12; first | ((with_reducible refine (HA.c12 _).mono ?_); rintro e w1 ⟨rfl, hb1⟩; have s1 := Lib.hid (box_below s0.out hb1); clear hb1))
    | (go_at_call 23; first | ((with_reducible refine (HF.c23 _).mono ?_); rintro e w' ⟨rfl, rfl⟩))
    | (go_at_call 17; first | ((with_reducible refine (HV.c17 _).mono ?_); rintro e w2 ⟨rfl, hb2⟩; have s2 := Lib.hid (box_below s1.out hb2); clear hb2))
    | (go_at_call 19; first | ((with_reducible refine (HV.c19 _).mono ?_); rintro e w3 ⟨rfl, hb3⟩; have s3 := Lib.hid (box_below s2.out (below_end (alloc_below _ _) hb3)); clear hb3))
    | (go_at_call 21; first | ((with_reducible refine (HV.c21 _).mono ?_); rintro e w4 ⟨rfl, hb4⟩; have s4 := Lib.hid (box_below s3.out hb4); clear hb4))
    | (go_at_call 27; first | ((refine (kind27 _ _ _).mono ?_); rintro e w' ⟨rfl, rfl⟩))
    | (go_at_call 16; first | ((with_reducible refine (awake16 _).mono ?_); rintro e w5 ⟨rfl, hb5⟩; have s5 := Lib.hid (box_below s4.out hb5); clear hb5)))
  go_ret
  exact ⟨rfl, s5.out.2.2.2⟩
theorem back6 (P R a v : Int) (hP : SI P) (hR : SI R) (_ha : SI a) (hv : UI v) (w : World) :
    Calls Try.prog 6 #[.agg #[.int .i64 P, .int .i64 R], .int .i64 a, .int .u64 v] w fun e w' => e = .returned (.bool true) ∧ Below w.heap.size w w' := by
  rcases back_cases hP hR with ⟨u, HA⟩ | ⟨c, qc, HA⟩ <;> rcases fwd_cases a with ⟨m, HF⟩ | HF <;> rcases word_cases hv with ⟨p, r, HV⟩ | ⟨t, HV⟩ | HV
  · exact back_AAO P R a v u HA m HF p r HV w
  · exact back_AAF P R a v u HA m HF t HV w
  · exact back_AAN P R a v u HA m HF HV w
  · exact back_ANO P R a v u HA HF p r HV w
  · exact back_ANF P R a v u HA HF t HV w
  · exact back_ANN P R a v u HA HF HV w
  · exact back_NAO P R a v c qc HA m HF p r HV w
  · exact back_NAF P R a v c qc HA m HF t HV w
  · exact back_NAN P R a v c qc HA m HF HV w
  · exact back_NNO P R a v c qc HA HF p r HV w
  · exact back_NNF P R a v c qc HA HF t HV w
  · exact back_NNN P R a v c qc HA HF HV w
end Ytekhkgcdgkfflaa
end Go.Proofs
