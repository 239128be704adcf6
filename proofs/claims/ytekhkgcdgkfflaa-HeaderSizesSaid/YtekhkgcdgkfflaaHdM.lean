/- The law HeaderSizes answers true. -/
import Derived.Test.YtekhkgcdgkfflaaHdJ
namespace Go.Proofs
namespace Ytekhkgcdgkfflaa
open Go.RowKit

/-- is (P, R) among the first k shapes of the size m? -/
def fdB (m : Nat) (P R : Int) (k : Nat) : Bool := (List.range k).any fun i => same2 (i : Int) ((m : Int) - 1 - (i : Int)) P R
theorem fd_zero (m : Nat) (P R : Int) : fdB m P R 0 = false := rfl
theorem fd_succ (m : Nat) (P R : Int) (k : Nat) : fdB m P R (k + 1) = (fdB m P R k || same2 (k : Int) ((m : Int) - 1 - (k : Int)) P R) := by simp [fdB, List.range_succ]
theorem fd_all {m : Nat} {P R : Int} (m2 : m ≤ 64) : fdB m P R m = (decide (chkV P R = 0) && decide (sizeV P R = m)) := by
  rw [Bool.eq_iff_iff]
  simp only [fdB, List.any_eq_true, List.mem_range, same2, Bool.and_eq_true, beq_iff_eq, decide_eq_true_eq]
  constructor
  · rintro ⟨i, hi, h1, h2⟩
    have hc : chkV P R = 0 := chk_zero.2 ⟨by omega, by omega, by omega⟩
    exact ⟨hc, by rw [show sizeV P R = 1 + P + R from if_pos hc]; omega⟩
  · rintro ⟨hc, hz⟩
    obtain ⟨z0, z1, z2⟩ := chk_zero.1 hc
    rw [show sizeV P R = 1 + P + R from if_pos hc] at hz
    exact ⟨P.toNat, by omega, by omega, by omega⟩
def tri : Nat → Nat
  | 0 => 0
  | k + 1 => tri k + (k + 1)
theorem tri_le (k : Nat) : tri k ≤ 64 * k ∨ 64 < k := by
  induction k with
  | zero => left; simp [tri]
  | succ k ih => simp only [tri]; omega
theorem tri64 : tri 64 = 2080 := by decide
theorem size_k (m k : Nat) (m2 : m ≤ 64) (hk : k < m) (W : World) : Calls Try.prog 10 #[.agg #[.int .i64 (k : Int), .int .i64 ((m : Int) - 1 - (k : Int))]] W fun e w' => e = .returned (.tuple #[.int .i64 (m : Int), .int .i64 0]) ∧ Below W.heap.size W w' := by
  have h := size10 (k : Int) ((m : Int) - 1 - (k : Int)) ⟨by omega, by omega⟩ ⟨by omega, by omega⟩ W
  have hc : chkV (k : Int) ((m : Int) - 1 - (k : Int)) = 0 := chk_zero.2 ⟨by omega, by omega, by omega⟩
  rwa [show sizeV (k : Int) ((m : Int) - 1 - (k : Int)) = (m : Int) from (if_pos hc).trans (by omega), hc] at h
/-- what a loop's round knows -/
structure SzK (w wr : World) (P R : Int) (b m cap : Nat) : Prop where
  box : wr.cell? ⟨w.heap.size, 0, none⟩ = some (.int .i64 P) ∧ wr.cell? ⟨w.heap.size, 1, none⟩ = some (.int .i64 R)
  sh : ShAt wr (.slice (some ⟨b, 0, none⟩) m cap) m
  low : Below w.heap.size w wr
theorem SzK.below {w wr w' : World} {P R : Int} {b m cap : Nat} (h : SzK w wr P R b m cap) (hb : Below wr.heap.size wr w') : SzK w w' P R b m cap := ⟨far_box h.box hb, h.sh.below hb, below_end h.low hb⟩
theorem SzK.drewN {w wr : World} {P R : Int} {b m cap : Nat} (h : SzK w wr P R b m cap) (n : Nat) : SzK w (wr.drewN n) P R b m cap := h.below (below_drewN (Below.refl _ _) n)

set_option maxRecDepth 100000 in
set_option maxHeartbeats 1000000 in
theorem sizes_out_a (n P R : Int) (h : n < 1 ∨ 64 < n) (f z : Int) (qf : (f != 0) = true) (w : World)
    (F10 : Hid (∀ W, Calls Try.prog 10 #[.agg #[.int .i64 P, .int .i64 R]] W fun e w' => e = .returned (.tuple #[.int .i64 z, .int .i64 f]) ∧ Below W.heap.size W w')) :
    Calls Try.prog 8 #[.int .i64 n, .agg #[.int .i64 P, .int .i64 R]] w fun e w' => e = .returned (.bool true) ∧ Below w.heap.size w w' := by
  have F25 := Lib.hid (out25 n h)
  clear h
  have s0 := Lib.hid (box_new w P R)
  go_enter Try.func8, Try.ntmps8
  go_wp2_with (first
    | (go_at_call 25; refine (F25.out _).mono ?_; rintro e w1 ⟨rfl, hb1⟩; have s1 := Lib.hid (box_below s0.out hb1); clear hb1; obtain ⟨qa, qb, -, -⟩ := s1.out)
    | (go_at_call 10; refine (F10.out _).mono ?_; rintro e w2 ⟨rfl, hb2⟩; have s2 := Lib.hid (box_below s1.out hb2); clear hb2 qa qb)
    | (go_at_call 16; refine (awake16 _).mono ?_; rintro e w3 ⟨rfl, hb3⟩; have s3 := Lib.hid (box_below s2.out hb3); clear hb3))
  go_ret
  exact ⟨rfl, s3.out.2.2.2⟩
set_option maxRecDepth 100000 in
set_option maxHeartbeats 1000000 in
theorem sizes_out_b (n P R : Int) (h : n < 1 ∨ 64 < n) (z : Int) (qz : (z != n) = true) (w : World)
    (F10 : Hid (∀ W, Calls Try.prog 10 #[.agg #[.int .i64 P, .int .i64 R]] W fun e w' => e = .returned (.tuple #[.int .i64 z, .int .i64 0]) ∧ Below W.heap.size W w')) :
    Calls Try.prog 8 #[.int .i64 n, .agg #[.int .i64 P, .int .i64 R]] w fun e w' => e = .returned (.bool true) ∧ Below w.heap.size w w' := by
  have F25 := Lib.hid (out25 n h)
  clear h
  have s0 := Lib.hid (box_new w P R)
  go_enter Try.func8, Try.ntmps8
  go_wp2_with (first
    | (go_at_call 25; refine (F25.out _).mono ?_; rintro e w1 ⟨rfl, hb1⟩; have s1 := Lib.hid (box_below s0.out hb1); clear hb1; obtain ⟨qa, qb, -, -⟩ := s1.out)
    | (go_at_call 10; refine (F10.out _).mono ?_; rintro e w2 ⟨rfl, hb2⟩; have s2 := Lib.hid (box_below s1.out hb2); clear hb2 qa qb)
    | (go_at_call 16; refine (awake16 _).mono ?_; rintro e w3 ⟨rfl, hb3⟩; have s3 := Lib.hid (box_below s2.out hb3); clear hb3))
  go_ret
  exact ⟨rfl, s3.out.2.2.2⟩
set_option maxRecDepth 100000 in
set_option maxHeartbeats 2000000 in
theorem sizes_in_a (m : Nat) (P R : Int) (m1 : 1 ≤ m) (m2 : m ≤ 64)  (w : World) (hfin : Hid (fdB m P R m = true))
    (F10 : Hid (∀ W, Calls Try.prog 10 #[.agg #[.int .i64 P, .int .i64 R]] W fun e w' => e = .returned (.tuple #[.int .i64 (m : Int), .int .i64 0]) ∧ Below W.heap.size W w')) :
    Calls Try.prog 8 #[.int .i64 (m : Int), .agg #[.int .i64 P, .int .i64 R]] w fun e w' => e = .returned (.bool true) ∧ Below w.heap.size w w' := by
  have s0 := Lib.hid (box_new w P R)
  go_enter Try.func8, Try.ntmps8
  go_wp2_with (first
    | (go_at_call 25; refine (in25 m m1 m2 _).mono ?_; rintro e w1 ⟨b, cap, rfl, hs1, hb1⟩; have s1 := Lib.hid (box_below s0.out hb1); clear hb1; obtain ⟨qa, qb, -, -⟩ := s1.out)
    | (go_at_call 10; refine (F10.out _).mono ?_; rintro e w2 ⟨rfl, hb2⟩; have hK := Lib.hid (show SzK w w2 P R b m cap from ⟨far_box ⟨s1.out.1, s1.out.2.1⟩ hb2, hs1.below hb2, below_end s1.out.2.2.2 hb2⟩); clear hb2 qa qb hs1))
  go_loopw [9, 10] (fun fd i wr => ∃ k : Nat, k ≤ m ∧ i = .int .i64 k ∧ (∃ fb : Bool, Hid (fdB m P R k = fb) ∧ fd = .bool fb) ∧ Hid (SzK w wr P R b m cap)) (fun _ i _ => m - (intOf i).toNat)
  case atStart => exact ⟨0, by omega, rfl, ⟨false, Lib.hid (fd_zero m P R), rfl⟩, hK⟩
  case round =>
    clear hK
    obtain ⟨k, hk, rfl, ⟨fb, hfb, rfl⟩, hK⟩ := hrel
    by_cases hlt : k < m
    · have hlt' : (k : Int) < (m : Int) := by omega
      obtain ⟨g0, g1⟩ := hK.out.sh.at k hlt
      have S := Lib.hid (fd_succ m P R k)
      cases hsame : same2 (k : Int) ((m : Int) - 1 - (k : Int)) P R
      all_goals
        have hq := fun W => eql23 (k : Int) ((m : Int) - 1 - (k : Int)) P R W
        rw [hsame] at hq
        have HS := Lib.hid hsame
        clear hsame
        cases fb
        all_goals
          go_upto_region 12 with (go_at_call 10; refine (size_k m k m2 hlt _).mono ?_; rintro e w3 ⟨rfl, hb3⟩; have hK3 := Lib.hid (hK.out.below hb3); clear g0 g1 hb3; obtain ⟨g2, g3⟩ := hK3.out.sh.at k hlt; obtain ⟨g4, g5⟩ := hK3.out.box)
          go_quiet (fail)
          go_wp2
          go_roundw
          case rel => exact ⟨k + 1, by omega, by go_num, ⟨_, Lib.hid (by rw [S.out, hfb.out, HS.out]; rfl), rfl⟩, Lib.hid (hK3.out.drewN _)⟩
          case measure => simp [intOf]; omega
    · obtain rfl : k = m := by omega
      obtain rfl : fb = true := hfb.out.symm.trans hfin.out
      have hW := Lib.hid hK.out.low
      clear hK hfb
      go_wp2
      go_loopw [13, 14] (fun a i wx => ∃ j : Nat, j ≤ 64 ∧ i = .int .i64 ((j : Int) + 1) ∧ a = .int .i64 (tri j : Nat) ∧ Hid (Below w.heap.size w wx)) (fun _ i _ => 65 - (intOf i).toNat)
      case atStart => exact ⟨0, by omega, rfl, rfl, hW⟩
      case round =>
        clear hW
        obtain ⟨j, hj, rfl, rfl, hW⟩ := hrel
        by_cases hjl : j < 64
        · have T := Lib.hid (show tri (j + 1) = tri j + (j + 1) from rfl)
          have tl := tri_le j
          have tl' : tri j ≤ 4096 := by omega
          clear tl
          have C := Lib.hid (fun W => in25 (j + 1) (by omega) (by omega) W)
          rw [show ((j + 1 : Nat) : Int) = (j : Int) + 1 by omega] at C
          have hjl' : ((j : Int) + 1 ≤ 64) := by omega
          go_wp2_with (go_at_call 25; refine (C.out _).mono ?_; rintro e w4 ⟨b4, c4, rfl, -, hb4⟩; have hW4 := Lib.hid (below_end hW.out hb4); clear hb4)
          go_roundw
          case rel => exact ⟨j + 1, by omega, by go_num, by rw [T.out]; go_num, hW4⟩
          case measure => simp [intOf]; omega
        · obtain rfl : j = 64 := by omega
          rw [tri64]
          go_wp2_with (go_at_call 16; refine (awake16 _).mono ?_; rintro e w5 ⟨rfl, hb5⟩; have hW5 := Lib.hid (below_end hW.out hb5); clear hb5)
          go_ret
          exact ⟨rfl, hW5.out⟩
set_option maxRecDepth 100000 in
set_option maxHeartbeats 2000000 in
theorem sizes_in_b (m : Nat) (P R : Int) (m1 : 1 ≤ m) (m2 : m ≤ 64) (z : Int) (qz : (z == (m : Int)) = false) (w : World) (hfin : Hid (fdB m P R m = false))
    (F10 : Hid (∀ W, Calls Try.prog 10 #[.agg #[.int .i64 P, .int .i64 R]] W fun e w' => e = .returned (.tuple #[.int .i64 z, .int .i64 0]) ∧ Below W.heap.size W w')) :
    Calls Try.prog 8 #[.int .i64 (m : Int), .agg #[.int .i64 P, .int .i64 R]] w fun e w' => e = .returned (.bool true) ∧ Below w.heap.size w w' := by
  have s0 := Lib.hid (box_new w P R)
  go_enter Try.func8, Try.ntmps8
  go_wp2_with (first
    | (go_at_call 25; refine (in25 m m1 m2 _).mono ?_; rintro e w1 ⟨b, cap, rfl, hs1, hb1⟩; have s1 := Lib.hid (box_below s0.out hb1); clear hb1; obtain ⟨qa, qb, -, -⟩ := s1.out)
    | (go_at_call 10; refine (F10.out _).mono ?_; rintro e w2 ⟨rfl, hb2⟩; have hK := Lib.hid (show SzK w w2 P R b m cap from ⟨far_box ⟨s1.out.1, s1.out.2.1⟩ hb2, hs1.below hb2, below_end s1.out.2.2.2 hb2⟩); clear hb2 qa qb hs1))
  go_loopw [9, 10] (fun fd i wr => ∃ k : Nat, k ≤ m ∧ i = .int .i64 k ∧ (∃ fb : Bool, Hid (fdB m P R k = fb) ∧ fd = .bool fb) ∧ Hid (SzK w wr P R b m cap)) (fun _ i _ => m - (intOf i).toNat)
  case atStart => exact ⟨0, by omega, rfl, ⟨false, Lib.hid (fd_zero m P R), rfl⟩, hK⟩
  case round =>
    clear hK
    obtain ⟨k, hk, rfl, ⟨fb, hfb, rfl⟩, hK⟩ := hrel
    by_cases hlt : k < m
    · have hlt' : (k : Int) < (m : Int) := by omega
      obtain ⟨g0, g1⟩ := hK.out.sh.at k hlt
      have S := Lib.hid (fd_succ m P R k)
      cases hsame : same2 (k : Int) ((m : Int) - 1 - (k : Int)) P R
      all_goals
        have hq := fun W => eql23 (k : Int) ((m : Int) - 1 - (k : Int)) P R W
        rw [hsame] at hq
        have HS := Lib.hid hsame
        clear hsame
        cases fb
        all_goals
          go_upto_region 12 with (go_at_call 10; refine (size_k m k m2 hlt _).mono ?_; rintro e w3 ⟨rfl, hb3⟩; have hK3 := Lib.hid (hK.out.below hb3); clear g0 g1 hb3; obtain ⟨g2, g3⟩ := hK3.out.sh.at k hlt; obtain ⟨g4, g5⟩ := hK3.out.box)
          go_quiet (fail)
          go_wp2
          go_roundw
          case rel => exact ⟨k + 1, by omega, by go_num, ⟨_, Lib.hid (by rw [S.out, hfb.out, HS.out]; rfl), rfl⟩, Lib.hid (hK3.out.drewN _)⟩
          case measure => simp [intOf]; omega
    · obtain rfl : k = m := by omega
      obtain rfl : fb = false := hfb.out.symm.trans hfin.out
      have hW := Lib.hid hK.out.low
      clear hK hfb
      go_wp2
      go_loopw [13, 14] (fun a i wx => ∃ j : Nat, j ≤ 64 ∧ i = .int .i64 ((j : Int) + 1) ∧ a = .int .i64 (tri j : Nat) ∧ Hid (Below w.heap.size w wx)) (fun _ i _ => 65 - (intOf i).toNat)
      case atStart => exact ⟨0, by omega, rfl, rfl, hW⟩
      case round =>
        clear hW
        obtain ⟨j, hj, rfl, rfl, hW⟩ := hrel
        by_cases hjl : j < 64
        · have T := Lib.hid (show tri (j + 1) = tri j + (j + 1) from rfl)
          have tl := tri_le j
          have tl' : tri j ≤ 4096 := by omega
          clear tl
          have C := Lib.hid (fun W => in25 (j + 1) (by omega) (by omega) W)
          rw [show ((j + 1 : Nat) : Int) = (j : Int) + 1 by omega] at C
          have hjl' : ((j : Int) + 1 ≤ 64) := by omega
          go_wp2_with (go_at_call 25; refine (C.out _).mono ?_; rintro e w4 ⟨b4, c4, rfl, -, hb4⟩; have hW4 := Lib.hid (below_end hW.out hb4); clear hb4)
          go_roundw
          case rel => exact ⟨j + 1, by omega, by go_num, by rw [T.out]; go_num, hW4⟩
          case measure => simp [intOf]; omega
        · obtain rfl : j = 64 := by omega
          rw [tri64]
          go_wp2_with (go_at_call 16; refine (awake16 _).mono ?_; rintro e w5 ⟨rfl, hb5⟩; have hW5 := Lib.hid (below_end hW.out hb5); clear hb5)
          go_ret
          exact ⟨rfl, hW5.out⟩
set_option maxRecDepth 100000 in
set_option maxHeartbeats 2000000 in
theorem sizes_in_c (m : Nat) (P R : Int) (m1 : 1 ≤ m) (m2 : m ≤ 64) (f z : Int) (qf : (f == 0) = false) (w : World) (hfin : Hid (fdB m P R m = false))
    (F10 : Hid (∀ W, Calls Try.prog 10 #[.agg #[.int .i64 P, .int .i64 R]] W fun e w' => e = .returned (.tuple #[.int .i64 z, .int .i64 f]) ∧ Below W.heap.size W w')) :
    Calls Try.prog 8 #[.int .i64 (m : Int), .agg #[.int .i64 P, .int .i64 R]] w fun e w' => e = .returned (.bool true) ∧ Below w.heap.size w w' := by
  have s0 := Lib.hid (box_new w P R)
  go_enter Try.func8, Try.ntmps8
  go_wp2_with (first
    | (go_at_call 25; refine (in25 m m1 m2 _).mono ?_; rintro e w1 ⟨b, cap, rfl, hs1, hb1⟩; have s1 := Lib.hid (box_below s0.out hb1); clear hb1; obtain ⟨qa, qb, -, -⟩ := s1.out)
    | (go_at_call 10; refine (F10.out _).mono ?_; rintro e w2 ⟨rfl, hb2⟩; have hK := Lib.hid (show SzK w w2 P R b m cap from ⟨far_box ⟨s1.out.1, s1.out.2.1⟩ hb2, hs1.below hb2, below_end s1.out.2.2.2 hb2⟩); clear hb2 qa qb hs1))
  go_loopw [9, 10] (fun fd i wr => ∃ k : Nat, k ≤ m ∧ i = .int .i64 k ∧ (∃ fb : Bool, Hid (fdB m P R k = fb) ∧ fd = .bool fb) ∧ Hid (SzK w wr P R b m cap)) (fun _ i _ => m - (intOf i).toNat)
  case atStart => exact ⟨0, by omega, rfl, ⟨false, Lib.hid (fd_zero m P R), rfl⟩, hK⟩
  case round =>
    clear hK
    obtain ⟨k, hk, rfl, ⟨fb, hfb, rfl⟩, hK⟩ := hrel
    by_cases hlt : k < m
    · have hlt' : (k : Int) < (m : Int) := by omega
      obtain ⟨g0, g1⟩ := hK.out.sh.at k hlt
      have S := Lib.hid (fd_succ m P R k)
      cases hsame : same2 (k : Int) ((m : Int) - 1 - (k : Int)) P R
      all_goals
        have hq := fun W => eql23 (k : Int) ((m : Int) - 1 - (k : Int)) P R W
        rw [hsame] at hq
        have HS := Lib.hid hsame
        clear hsame
        cases fb
        all_goals
          go_upto_region 12 with (go_at_call 10; refine (size_k m k m2 hlt _).mono ?_; rintro e w3 ⟨rfl, hb3⟩; have hK3 := Lib.hid (hK.out.below hb3); clear g0 g1 hb3; obtain ⟨g2, g3⟩ := hK3.out.sh.at k hlt; obtain ⟨g4, g5⟩ := hK3.out.box)
          go_quiet (fail)
          go_wp2
          go_roundw
          case rel => exact ⟨k + 1, by omega, by go_num, ⟨_, Lib.hid (by rw [S.out, hfb.out, HS.out]; rfl), rfl⟩, Lib.hid (hK3.out.drewN _)⟩
          case measure => simp [intOf]; omega
    · obtain rfl : k = m := by omega
      obtain rfl : fb = false := hfb.out.symm.trans hfin.out
      have hW := Lib.hid hK.out.low
      clear hK hfb
      go_wp2
      go_loopw [13, 14] (fun a i wx => ∃ j : Nat, j ≤ 64 ∧ i = .int .i64 ((j : Int) + 1) ∧ a = .int .i64 (tri j : Nat) ∧ Hid (Below w.heap.size w wx)) (fun _ i _ => 65 - (intOf i).toNat)
      case atStart => exact ⟨0, by omega, rfl, rfl, hW⟩
      case round =>
        clear hW
        obtain ⟨j, hj, rfl, rfl, hW⟩ := hrel
        by_cases hjl : j < 64
        · have T := Lib.hid (show tri (j + 1) = tri j + (j + 1) from rfl)
          have tl := tri_le j
          have tl' : tri j ≤ 4096 := by omega
          clear tl
          have C := Lib.hid (fun W => in25 (j + 1) (by omega) (by omega) W)
          rw [show ((j + 1 : Nat) : Int) = (j : Int) + 1 by omega] at C
          have hjl' : ((j : Int) + 1 ≤ 64) := by omega
          go_wp2_with (go_at_call 25; refine (C.out _).mono ?_; rintro e w4 ⟨b4, c4, rfl, -, hb4⟩; have hW4 := Lib.hid (below_end hW.out hb4); clear hb4)
          go_roundw
          case rel => exact ⟨j + 1, by omega, by go_num, by rw [T.out]; go_num, hW4⟩
          case measure => simp [intOf]; omega
        · obtain rfl : j = 64 := by omega
          rw [tri64]
          go_wp2_with (go_at_call 16; refine (awake16 _).mono ?_; rintro e w5 ⟨rfl, hb5⟩; have hW5 := Lib.hid (below_end hW.out hb5); clear hb5)
          go_ret
          exact ⟨rfl, hW5.out⟩
theorem sizes8 (n P R : Int) (_hn : SI n) (hP : SI P) (hR : SI R) (w : World) :
    Calls Try.prog 8 #[.int .i64 n, .agg #[.int .i64 P, .int .i64 R]] w fun e w' => e = .returned (.bool true) ∧ Below w.heap.size w w' := by
  have F10 := fun W => size10 P R hP hR W
  by_cases h : n < 1 ∨ 64 < n
  · by_cases hf : chkV P R = 0
    · have hz := chk_zero.1 hf
      rw [hf] at F10
      exact sizes_out_b n P R h _ (by rw [show sizeV P R = 1 + P + R from if_pos hf]; simp only [bne_iff_ne, ne_eq]; omega) w (Lib.hid F10)
    · exact sizes_out_a n P R h _ _ (by simpa using hf) w (Lib.hid F10)
  · obtain ⟨m, rfl⟩ : ∃ m : Nat, n = (m : Int) := ⟨n.toNat, by omega⟩
    have hd := fd_all (m := m) (P := P) (R := R) (by omega)
    by_cases hf : chkV P R = 0
    · by_cases hz : sizeV P R = (m : Int)
      · rw [decide_eq_true hf, decide_eq_true hz] at hd
        rw [hf, hz] at F10
        exact sizes_in_a m P R (by omega) (by omega) w (Lib.hid hd) (Lib.hid F10)
      · rw [decide_eq_true hf, decide_eq_false hz] at hd
        rw [hf] at F10
        exact sizes_in_b m P R (by omega) (by omega) _ (by simpa using hz) w (Lib.hid hd) (Lib.hid F10)
    · rw [decide_eq_false hf, Bool.false_and] at hd
      exact sizes_in_c m P R (by omega) (by omega) _ _ (by simpa using hf) w (Lib.hid hd) (Lib.hid F10)
end Ytekhkgcdgkfflaa
end Go.Proofs
