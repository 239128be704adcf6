/- Headers and marks as plain functions on numbers; Pack and Forward, the program's and the reference's; a word taken apart. -/
import Derived.Test.YteeghjhkfaeflaaG05
import Derived.Deep.RegionWith
import Derived.Laws.StructEq
import Derived.ChangeKeysEq
import Derived.Deep.Cut
namespace Go.Proofs
namespace Yteeghjhkfaeflaa
namespace Hd
open Go.RowKit

theorem or_low (a b : Nat) (i : Nat) (hb : b % 2 ^ i = 0) (ha : a < 2 ^ i) : a ||| b = a + b := by rw [Nat.or_comm, nat_join i b a hb ha, Nat.add_comm]
theorem or1 (P : Int) (h0 : 0 ≤ P) (h1 : P ≤ 63) : bits .or .u64 1 (P * 256) = 1 + P * 256 := by
  rw [u64_or _ _ (by omega) (by omega) (by omega) (by omega), or_low _ _ 8 (by omega) (by decide)]; omega
theorem or2 (P R : Int) (h0 : 0 ≤ P) (h1 : P ≤ 63) (h2 : 0 ≤ R) (h3 : R ≤ 63) : bits .or .u64 (1 + P * 256) (R * 65536) = 1 + P * 256 + R * 65536 := by
  rw [u64_or _ _ (by omega) (by omega) (by omega) (by omega), or_low _ _ 16 (by omega) (by omega)]; omega
theorem or3 (a : Int) (h0 : 0 ≤ a) (h1 : a ≤ 1600) : bits .or .u64 2 (a * 256) = 2 + a * 256 := by
  rw [u64_or _ _ (by omega) (by omega) (by omega) (by omega), or_low _ _ 8 (by omega) (by decide)]; omega
def belowV (k : Int) : Int := if k = 1 then 16 else 8
theorem below_0 (w : World) : Calls Try.prog 90 #[.int .i64 0] w fun e w' => e = .returned (.int .i64 8) ∧ w = w' := by
  go_enter Try.func90, Try.ntmps90
  go_wp2
  go_ret
  exact ⟨rfl, rfl⟩
theorem below_1 (w : World) : Calls Try.prog 90 #[.int .i64 1] w fun e w' => e = .returned (.int .i64 16) ∧ w = w' := by
  go_enter Try.func90, Try.ntmps90
  go_wp2
  go_ret
  exact ⟨rfl, rfl⟩
theorem below_2 (w : World) : Calls Try.prog 90 #[.int .i64 2] w fun e w' => e = .returned (.int .i64 8) ∧ w = w' := by
  go_enter Try.func90, Try.ntmps90
  go_wp2
  go_ret
  exact ⟨rfl, rfl⟩
end Hd
end Yteeghjhkfaeflaa
end Go.Proofs
/- Headers and marks put together, and words taken apart. -/
namespace Go.Proofs
namespace Yteeghjhkfaeflaa
namespace Hd
open Go.RowKit

theorem below_drewN {B : Nat} {a w : World} (h : Below B a w) (n : Nat) : Below B a (w.drewN n) := ⟨h.os, h.tape, h.output, h.size, h.block⟩
set_option maxRecDepth 100000 in
theorem head59 (P R : Int) (h0 : 0 ≤ P) (h1 : 0 ≤ R) (h2 : P + R ≤ 63) (w : World) :
    Calls Try.prog 84 #[.agg #[.int .i64 P, .int .i64 R]] w fun e w' => e = .returned (.int .u64 (packV P R)) ∧ Below w.heap.size w w' := by
  have O1 := or1 P h0 (by omega)
  have O2 := or2 P R h0 (by omega) h1 (by omega)
  have T := Lib.hid (show packV P R = 1 + P * 256 + R * 65536 by unfold packV; omega)
  have hp : P ≤ 63 := by omega
  have hr : R ≤ 63 := by omega
  go_enter Try.func84, Try.ntmps84
  go_wp2
  go_quiet ((go_at_call 90; first | (with_reducible exact Calls.quiet_of_same ((below_0 _).mono (fun _ _ h => ⟨h.1, h.2.symm⟩))) | (with_reducible exact Calls.quiet_of_same ((below_1 _).mono (fun _ _ h => ⟨h.1, h.2.symm⟩)))))
  go_wp2
  go_ret
  exact ⟨by rw [T.out]; rfl, below_drewN (alloc_below _ _) _⟩
set_option maxRecDepth 100000 in
theorem mark81 (a : Int) (h0 : 1 ≤ a) (h1 : a ≤ 1600) (w : World) :
    Calls Try.prog 98 #[.int .i64 a] w fun e w' => e = .returned (.int .u64 (2 + a * 256)) ∧ w = w' := by
  have O1 := or3 a (by omega) h1
  go_enter Try.func98, Try.ntmps98
  go_wp2_with (go_at_call 90; refine (below_2 _).mono ?_; rintro e w' ⟨rfl, rfl⟩)
  go_ret
  exact ⟨rfl, rfl⟩
set_option maxRecDepth 100000 in
theorem target80 (v : Int) (h0 : 0 ≤ v) (h1 : v ≤ 18446744073709551615) (w : World) :
    Calls Try.prog 97 #[.int .u64 v] w fun e w' => e = .returned (.int .i64 (v / 256)) ∧ w = w' := by
  go_enter Try.func97, Try.ntmps97
  go_wp2_with (go_at_call 90; refine (below_2 _).mono ?_; rintro e w' ⟨rfl, rfl⟩)
  go_ret
  exact ⟨rfl, rfl⟩
set_option maxRecDepth 100000 in
theorem shape76 (v : Int) (h0 : 0 ≤ v) (h1 : v ≤ 18446744073709551615) (w : World) :
    Calls Try.prog 88 #[.int .u64 v] w fun e w' => e = .returned (.agg #[.int .i64 (v / 256 % 256), .int .i64 (v / 65536)]) ∧ Below w.heap.size w w' := by
  have e1 : IntKind.i64.wrap ((v / 256).tmod 256) = v / 256 % 256 := by
    rw [Int.tmod_eq_emod_of_nonneg (by omega)]; exact IntWalk.i64_in _ (by omega)
  have e2 : IntKind.i64.wrap (v / 65536) = v / 65536 := IntWalk.i64_in _ (by omega)
  have E := Lib.hid (And.intro e1 e2)
  clear e1 e2
  go_enter Try.func88, Try.ntmps88
  go_wp2
  go_region_with (go_at_call 90; first | (with_reducible refine (below_0 _).mono ?_; rintro e w' ⟨rfl, rfl⟩) | (with_reducible refine (below_1 _).mono ?_; rintro e w' ⟨rfl, rfl⟩))
  all_goals go_wp2
  all_goals
    refine bodyPost_ret (v := .agg #[.int .i64 (v / 256 % 256), .int .i64 (v / 65536)]) ?_ rfl ⟨rfl, ?_⟩
    · simp [results, Try.f88, go_sem]
      exact E.out
    · exact (alloc_below _ _).drew
end Hd
end Yteeghjhkfaeflaa
end Go.Proofs
/- Size, Pack, Forward, Kind, Shape and Target, the program's and the reference's. -/
namespace Go.Proofs
namespace Yteeghjhkfaeflaa
namespace Hd
open Go.RowKit

def UI (v : Int) : Prop := 0 ≤ v ∧ v ≤ 18446744073709551615
theorem si_shape {v : Int} (h : UI v) : SI (v / 256 % 256) ∧ SI (v / 65536) := by
  obtain ⟨h0, h1⟩ := h
  exact ⟨⟨by omega, by omega⟩, ⟨by omega, by omega⟩⟩

set_option maxRecDepth 100000 in
theorem size36 (P R : Int) (hP : SI P) (hR : SI R) (w : World) :
    Calls Try.prog 34 #[.agg #[.int .i64 P, .int .i64 R]] w fun e w' => e = .returned (.tuple #[.int .i64 (sizeV P R), .int .i64 (chkV P R)]) ∧ Below w.heap.size w w' := by
  have H := Lib.hid (fun W => check44 P R hP hR W)
  obtain ⟨p0, p1⟩ := hP
  obtain ⟨r0, r1⟩ := hR
  by_cases h : chkV P R = 0
  · have T := Lib.hid (show sizeV P R = 1 + P + R from if_pos h)
    have hz := chk_zero.1 h
    obtain ⟨z0, z1, z2⟩ := hz
    rw [h] at H
    rw [h]
    clear h
    go_enter Try.func34, Try.ntmps34
    go_wp2_with (go_at_call 53; refine (H.out _).mono ?_; rintro e w1 ⟨rfl, hb1⟩; obtain ⟨hc1, hf1⟩ := bcell hb1)
    go_ret2
    exact ⟨by rw [T.out]; rfl, below_end (alloc_below _ _) hb1⟩
  · have T := Lib.hid (show sizeV P R = 0 from if_neg h)
    obtain ⟨c, hc⟩ : ∃ c, chkV P R = c := ⟨_, rfl⟩
    rw [hc] at H h
    rw [hc]
    clear hc
    have q1 : (c != 0) = true := by simpa using h
    go_enter Try.func34, Try.ntmps34
    go_wp2_with (go_at_call 53; refine (H.out _).mono ?_; rintro e w1 ⟨rfl, hb1⟩; obtain ⟨hc1, hf1⟩ := bcell hb1)
    go_ret2
    exact ⟨by rw [T.out]; rfl, below_end (alloc_below _ _) hb1⟩
set_option maxRecDepth 100000 in
theorem pack39 (P R : Int) (hP : SI P) (hR : SI R) (w : World) :
    Calls Try.prog 71 #[.agg #[.int .i64 P, .int .i64 R]] w fun e w' => e = .returned (.tuple #[.int .u64 (packE P R), .int .i64 (chkV P R)]) ∧ Below w.heap.size w w' := by
  have H := Lib.hid (fun W => check58 P R hP hR W)
  obtain ⟨p0, p1⟩ := hP
  obtain ⟨r0, r1⟩ := hR
  by_cases h : chkV P R = 0
  · have T := Lib.hid (show packE P R = packV P R from if_pos h)
    have hz := chk_zero.1 h
    obtain ⟨z0, z1, z2⟩ := hz
    rw [h] at H
    rw [h]
    clear h
    go_enter Try.func71, Try.ntmps71
    go_wp2_with (first
      | (go_at_call 83; refine (H.out _).mono ?_; rintro e w1 ⟨rfl, hb1⟩; obtain ⟨hc1, hf1⟩ := bcell hb1; have hb2 := below_end (alloc_below _ _) hb1)
      | (go_at_call 84; refine (head59 P R z0 z1 z2 _).mono ?_; rintro e w2 ⟨rfl, hb3⟩))
    go_ret2
    exact ⟨by rw [T.out]; rfl, below_end hb2 hb3⟩
  · have T := Lib.hid (show packE P R = 0 from if_neg h)
    obtain ⟨c, hc⟩ : ∃ c, chkV P R = c := ⟨_, rfl⟩
    rw [hc] at H h
    rw [hc]
    clear hc
    have q1 : (c != 0) = true := by simpa using h
    go_enter Try.func71, Try.ntmps71
    go_wp2_with (go_at_call 83; refine (H.out _).mono ?_; rintro e w1 ⟨rfl, hb1⟩; obtain ⟨hc1, hf1⟩ := bcell hb1)
    go_ret2
    exact ⟨by rw [T.out]; rfl, below_end (alloc_below _ _) hb1⟩
set_option maxRecDepth 100000 in
theorem pack46 (P R : Int) (hP : SI P) (hR : SI R) (w : World) :
    Calls Try.prog 74 #[.agg #[.int .i64 P, .int .i64 R]] w fun e w' => e = .returned (.tuple #[.int .u64 (packE P R), .int .i64 (chkV P R)]) ∧ Below w.heap.size w w' := by
  have H := Lib.hid (fun W => check44 P R hP hR W)
  obtain ⟨p0, p1⟩ := hP
  obtain ⟨r0, r1⟩ := hR
  by_cases h : chkV P R = 0
  · have T := Lib.hid (show packE P R = packV P R from if_pos h)
    have hz := chk_zero.1 h
    obtain ⟨z0, z1, z2⟩ := hz
    rw [h] at H
    rw [h]
    clear h
    have T2 := Lib.hid (show packV P R = 1 + 256 * P + 65536 * R from rfl)
    go_enter Try.func74, Try.ntmps74
    go_wp2_with (first
      | (go_at_call 53; refine (H.out _).mono ?_; rintro e w1 ⟨rfl, hb1⟩; obtain ⟨hc1, hf1⟩ := bcell hb1; have hb2 := below_end (alloc_below _ _) hb1))
    go_ret2
    exact ⟨by rw [T.out, T2.out]; rfl, hb2⟩
  · have T := Lib.hid (show packE P R = 0 from if_neg h)
    obtain ⟨c, hc⟩ : ∃ c, chkV P R = c := ⟨_, rfl⟩
    rw [hc] at H h
    rw [hc]
    clear hc
    have q1 : (c != 0) = true := by simpa using h
    go_enter Try.func74, Try.ntmps74
    go_wp2_with (go_at_call 53; refine (H.out _).mono ?_; rintro e w1 ⟨rfl, hb1⟩; obtain ⟨hc1, hf1⟩ := bcell hb1)
    go_ret2
    exact ⟨by rw [T.out]; rfl, below_end (alloc_below _ _) hb1⟩
def fwdE (a : Int) : Int := if 1 ≤ a ∧ a ≤ 1600 then 0 else 7
def fwdV (a : Int) : Int := if 1 ≤ a ∧ a ≤ 1600 then 2 + a * 256 else 0
set_option maxRecDepth 100000 in
theorem fwd79 (a : Int) (w : World) :
    Calls Try.prog 96 #[.int .i64 a] w fun e w' => e = .returned (.tuple #[.int .u64 (fwdV a), .int .i64 (fwdE a)]) ∧ w = w' := by
  by_cases h : 1 ≤ a ∧ a ≤ 1600
  · have T1 := Lib.hid (show fwdE a = 0 from if_pos h)
    have T2 := Lib.hid (show fwdV a = 2 + a * 256 from if_pos h)
    obtain ⟨h0, h1⟩ := h
    have q1 : decide (a < 1) = false := decide_eq_false (by omega)
    have q2 : decide (1600 < a) = false := decide_eq_false (by omega)
    go_enter Try.func96, Try.ntmps96
    go_wp2_with (go_at_call 98; refine (mark81 a h0 h1 _).mono ?_; rintro e w' ⟨rfl, rfl⟩)
    go_ret2
    exact ⟨by rw [T1.out, T2.out]; rfl, rfl⟩
  · have T1 := Lib.hid (show fwdE a = 7 from if_neg h)
    have T2 := Lib.hid (show fwdV a = 0 from if_neg h)
    by_cases h1 : a < 1
    · have q1 : decide (a < 1) = true := decide_eq_true h1
      clear h
      go_enter Try.func96, Try.ntmps96
      go_wp2
      go_ret2
      exact ⟨by rw [T1.out, T2.out]; rfl, rfl⟩
    · have q1 : decide (a < 1) = false := decide_eq_false h1
      have q2 : decide (1600 < a) = true := decide_eq_true (by omega)
      clear h
      go_enter Try.func96, Try.ntmps96
      go_wp2
      go_ret2
      exact ⟨by rw [T1.out, T2.out]; rfl, rfl⟩
def objB (v : Int) : Bool := decide (chkV (v / 256 % 256) (v / 65536) = 0) && decide (packV (v / 256 % 256) (v / 65536) = v)
def markB (v : Int) : Bool := decide (1 ≤ v / 256 ∧ v / 256 ≤ 1600) && decide (2 + v / 256 * 256 = v)
def kindV (v : Int) : Int := if objB v = true then 1 else if markB v = true then 2 else 0
theorem obj_spec {v : Int} : objB v = true ↔ chkV (v / 256 % 256) (v / 65536) = 0 ∧ packV (v / 256 % 256) (v / 65536) = v := by simp [objB]
theorem mark_spec {v : Int} : markB v = true ↔ (1 ≤ v / 256 ∧ v / 256 ≤ 1600) ∧ 2 + v / 256 * 256 = v := by simp [markB]
/-- what is an object's header, once its parts are given as letters -/
theorem kind_cases (v : Int) :
    (∃ p, packE (v / 256 % 256) (v / 65536) = p ∧ chkV (v / 256 % 256) (v / 65536) = 0 ∧ (p == v) = true ∧ kindV v = 1) ∨
    (kindV v ≠ 1 ∧ ((chkV (v / 256 % 256) (v / 65536) == 0) = false ∨ (chkV (v / 256 % 256) (v / 65536) = 0 ∧ (packE (v / 256 % 256) (v / 65536) == v) = false)) ∧
      ((fwdE (v / 256) = 0 ∧ (fwdV (v / 256) == v) = true ∧ kindV v = 2) ∨ ((fwdE (v / 256) = 0 ∧ (fwdV (v / 256) == v) = false) ∨ (fwdE (v / 256) == 0) = false) ∧ kindV v = 0)) := by
  by_cases ho : objB v = true
  · left
    obtain ⟨h1, h2⟩ := obj_spec.1 ho
    refine ⟨_, rfl, h1, ?_, if_pos ho⟩
    rw [show packE (v / 256 % 256) (v / 65536) = packV (v / 256 % 256) (v / 65536) from if_pos h1, h2]; simp
  · right
    have k1 : kindV v = if markB v = true then 2 else 0 := if_neg ho
    refine ⟨?_, ?_, ?_⟩
    · rw [k1]; split <;> decide
    · by_cases h1 : chkV (v / 256 % 256) (v / 65536) = 0
      · right
        refine ⟨h1, ?_⟩
        rw [show packE (v / 256 % 256) (v / 65536) = packV (v / 256 % 256) (v / 65536) from if_pos h1]
        simp only [beq_eq_false_iff_ne]
        exact fun h2 => ho (obj_spec.2 ⟨h1, h2⟩)
      · left; simpa using h1
    · by_cases hm : markB v = true
      · left
        obtain ⟨h1, h2⟩ := mark_spec.1 hm
        refine ⟨if_pos h1, ?_, by rw [k1, if_pos hm]⟩
        rw [show fwdV (v / 256) = 2 + v / 256 * 256 from if_pos h1, h2]; simp
      · right
        refine ⟨?_, by rw [k1, if_neg hm]⟩
        by_cases h1 : 1 ≤ v / 256 ∧ v / 256 ≤ 1600
        · left
          refine ⟨if_pos h1, ?_⟩
          rw [show fwdV (v / 256) = 2 + v / 256 * 256 from if_pos h1]
          simp only [beq_eq_false_iff_ne]
          exact fun h2 => hm (mark_spec.2 ⟨h1, h2⟩)
        · right
          rw [show fwdE (v / 256) = 7 from if_neg h1]; decide
set_option maxRecDepth 100000 in
theorem kind78 (v : Int) (hv : UI v) (w : World) :
    Calls Try.prog 95 #[.int .u64 v] w fun e w' => e = .returned (.int .i64 (kindV v)) ∧ Below w.heap.size w w' := by
  have hs := si_shape hv
  have K := Lib.hid (fun W => pack39 _ _ hs.1 hs.2 W)
  have F := Lib.hid (fun W => fwd79 (v / 256) W)
  obtain ⟨u0, u1⟩ := hv
  have S := Lib.hid (fun W => shape76 v u0 u1 W)
  have C := kind_cases v
  clear hs
  generalize v / 256 % 256 = P at *
  generalize v / 65536 = R at *
  rcases C with ⟨p, hp, hc, q1, hk⟩ | ⟨-, h1, h2⟩
  · rw [hp, hc] at K
    have T := Lib.hid hk
    clear hk hp hc
    go_enter Try.func95, Try.ntmps95
    go_wp2_with (first
      | (go_at_call 88; refine (S.out _).mono ?_; rintro e w1 ⟨rfl, hb1⟩; obtain ⟨hc1, hf1⟩ := bcell hb1)
      | (go_at_call 71; refine (K.out _).mono ?_; rintro e w2 ⟨rfl, hb2⟩; have hb3 := below_end hb1 hb2)
      | (go_at_call 97; refine (target80 v u0 u1 _).mono ?_; rintro e w' ⟨rfl, rfl⟩)
      | (go_at_call 96; refine (F.out _).mono ?_; rintro e w' ⟨rfl, rfl⟩))
    go_ret
    exact ⟨by rw [T.out]; rfl, hb3⟩
  · generalize packE P R = p at *
    generalize chkV P R = c at *
    generalize fwdE (v / 256) = fe at *
    generalize fwdV (v / 256) = fv at *
    rcases h1 with q1 | ⟨hc, q1⟩ <;> rcases h2 with ⟨hf, q2, hk⟩ | ⟨⟨hf, q2⟩ | q2, hk⟩
    all_goals
      (try subst hc)
      (try subst hf)
      have T := Lib.hid hk
      clear hk
      go_enter Try.func95, Try.ntmps95
      go_wp2_with (first
        | (go_at_call 88; refine (S.out _).mono ?_; rintro e w1 ⟨rfl, hb1⟩; obtain ⟨hc1, hf1⟩ := bcell hb1)
        | (go_at_call 71; refine (K.out _).mono ?_; rintro e w2 ⟨rfl, hb2⟩; have hb3 := below_end hb1 hb2)
        | (go_at_call 97; refine (target80 v u0 u1 _).mono ?_; rintro e w' ⟨rfl, rfl⟩)
        | (go_at_call 96; refine (F.out _).mono ?_; rintro e w' ⟨rfl, rfl⟩))
      go_ret
      exact ⟨by rw [T.out]; rfl, hb3⟩
end Hd
end Yteeghjhkfaeflaa
end Go.Proofs
/- Shape and Target, the program's and the reference's, and the reference's Kind. -/
namespace Go.Proofs
namespace Yteeghjhkfaeflaa
namespace Hd
open Go.RowKit

def shpP (v : Int) : Int := if kindV v = 1 then v / 256 % 256 else 0
def shpR (v : Int) : Int := if kindV v = 1 then v / 65536 else 0
def shpE (v : Int) : Int := if kindV v = 1 then 0 else 6
def tgtV (v : Int) : Int := if kindV v = 2 then v / 256 else 0
def tgtE (v : Int) : Int := if kindV v = 2 then 0 else 6
theorem kind_one {v : Int} : kindV v = 1 ↔ objB v = true := by
  unfold kindV
  constructor
  · intro h; split at h
    · assumption
    · split at h <;> cases h
  · intro h; rw [if_pos h]
theorem obj_mod {v : Int} (h : objB v = true) : v % 256 = 1 ∧ v / 65536 ≤ 63 ∧ 0 ≤ v / 65536 := by
  obtain ⟨h1, h2⟩ := obj_spec.1 h
  have := chk_zero.1 h1
  unfold packV at h2
  omega
theorem kind_two {v : Int} : kindV v = 2 ↔ v % 256 = 2 ∧ 1 ≤ v / 256 ∧ v / 256 ≤ 1600 := by
  constructor
  · intro h
    unfold kindV at h
    split at h
    · cases h
    · split at h
      · have := mark_spec.1 (by assumption); omega
      · cases h
  · intro h
    have ho : ¬ objB v = true := fun ho => by have := obj_mod ho; omega
    unfold kindV
    rw [if_neg ho, if_pos (mark_spec.2 ⟨⟨h.2.1, h.2.2⟩, by omega⟩)]
theorem kind_range (v : Int) : kindV v = 0 ∨ kindV v = 1 ∨ kindV v = 2 := by
  unfold kindV; split
  · simp
  · split <;> simp

theorem size_set (W : World) (a : Addr) (v : Value) : (W.setCell a v).heap.size = W.heap.size := by simp [World.setCell]
theorem two_set {W : World} {b : Nat} {x y : Value} (p q : Value) (h0 : W.cell? ⟨b, 0, none⟩ = some x) (h1 : W.cell? ⟨b, 1, none⟩ = some y) :
    ((W.setCell ⟨b, 0, none⟩ p).setCell ⟨b, 1, none⟩ q).cell? ⟨b, 0, none⟩ = some p ∧ ((W.setCell ⟨b, 0, none⟩ p).setCell ⟨b, 1, none⟩ q).cell? ⟨b, 1, none⟩ = some q :=
  ⟨(World.cell?_setCell_other _ ⟨b, 1, none⟩ ⟨b, 0, none⟩ q (by simp)).trans (World.cell?_setCell_same _ _ _ h0), World.cell?_setCell_same _ _ _ ((World.cell?_setCell_other _ ⟨b, 0, none⟩ ⟨b, 1, none⟩ p (by simp)).trans h1)⟩
set_option maxRecDepth 100000 in
theorem read75 (v : Int) (hv : UI v) (w : World) :
    Calls Try.prog 87 #[.int .u64 v, .int .i64 1, .func (.func 88) #[] #[]] w fun e w' => e = .returned (.tuple #[.agg #[.int .i64 (shpP v), .int .i64 (shpR v)], .int .i64 (shpE v)]) ∧ Below w.heap.size w w' := by
  have K := Lib.hid (fun W => kind78 v hv W)
  obtain ⟨u0, u1⟩ := hv
  have S := Lib.hid (fun W => shape76 v u0 u1 W)
  by_cases hk : kindV v = 1
  · have T := Lib.hid (show shpP v = v / 256 % 256 ∧ shpR v = v / 65536 ∧ shpE v = 0 from ⟨if_pos hk, if_pos hk, if_pos hk⟩)
    rw [hk] at K
    clear hk
    rw [T.out.1, T.out.2.1, T.out.2.2]
    clear T
    generalize v / 256 % 256 = P at *
    generalize v / 65536 = R at *
    go_enter Try.func87, Try.ntmps87
    go_wp2_with (first
      | (go_at_call 95; refine (K.out _).mono ?_; rintro e w1 ⟨rfl, hb1⟩; obtain ⟨hc1, hf1⟩ := bcell hb1; have hb2 := below_end (alloc_below _ _) hb1)
      | (go_at_call 88; refine (S.out _).mono ?_; rintro e w2 ⟨rfl, hb3⟩; obtain ⟨hc2, hf2⟩ := bcell hb3; have hz2 : w.heap.size < w1.heap.size := Nat.lt_of_lt_of_le (by simp) hb1.size))
    have c0 : w2.cell? ⟨w.heap.size, 0, none⟩ = some (.int .i64 0) := by rw [hc2 _ _ hz2, hc1 _ _ (by simp)]; simp
    have c1 : w2.cell? ⟨w.heap.size, 1, none⟩ = some (.int .i64 0) := by rw [hc2 _ _ hz2, hc1 _ _ (by simp)]; simp
    obtain ⟨e0, e1⟩ := two_set (.int .i64 P) (.int .i64 R) c0 c1
    have hB : Below w.heap.size w ((w2.setCell ⟨w.heap.size, 0, none⟩ (.int .i64 P)).setCell ⟨w.heap.size, 1, none⟩ (.int .i64 R)) := ((below_end hb2 hb3).setCell (Nat.le_refl _) _).setCell (Nat.le_refl _) _
    clear c0 c1 hc2 hf2 hc1 hf1
    generalize (w2.setCell ⟨w.heap.size, 0, none⟩ (.int .i64 P)).setCell ⟨w.heap.size, 1, none⟩ (.int .i64 R) = W3 at *
    exact bodyPost_ret (v := .tuple #[.agg #[.int .i64 P, .int .i64 R], .int .i64 0]) (by simp [results, Try.f87, go_sem, e0, e1]) rfl ⟨rfl, hB⟩
  · have T := Lib.hid (show shpP v = 0 ∧ shpR v = 0 ∧ shpE v = 6 from ⟨if_neg hk, if_neg hk, if_neg hk⟩)
    have q1 : (kindV v != 1) = true := by simpa using hk
    clear hk
    rw [T.out.1, T.out.2.1, T.out.2.2]
    clear T
    generalize kindV v = k at *
    go_enter Try.func87, Try.ntmps87
    go_wp2_with (first
      | (go_at_call 95; refine (K.out _).mono ?_; rintro e w1 ⟨rfl, hb1⟩; obtain ⟨hc1, hf1⟩ := bcell hb1; have hb2 := below_end (alloc_below _ _) hb1; have hz2 : w.heap.size < w1.heap.size := Nat.lt_of_lt_of_le (by simp) hb1.size))
    have c0 : w1.cell? ⟨w.heap.size, 0, none⟩ = some (.int .i64 0) := by rw [hc1 _ _ (by simp)]; simp
    have c1 : w1.cell? ⟨w.heap.size, 1, none⟩ = some (.int .i64 0) := by rw [hc1 _ _ (by simp)]; simp
    obtain ⟨e0, e1⟩ := two_set (.int .i64 0) (.int .i64 0) c0 c1
    have hB : Below w.heap.size w ((w1.setCell ⟨w.heap.size, 0, none⟩ (.int .i64 0)).setCell ⟨w.heap.size, 1, none⟩ (.int .i64 0)) := (hb2.setCell (Nat.le_refl _) _).setCell (Nat.le_refl _) _
    have hz3 : w.heap.size < ((w1.setCell ⟨w.heap.size, 0, none⟩ (.int .i64 0)).setCell ⟨w.heap.size, 1, none⟩ (.int .i64 0)).heap.size := by rw [size_set, size_set]; exact hz2
    clear c0 c1 hc1 hf1
    generalize (w1.setCell ⟨w.heap.size, 0, none⟩ (.int .i64 0)).setCell ⟨w.heap.size, 1, none⟩ (.int .i64 0) = W3 at *
    have f0 := fun o => (World.cell?_alloc_past (w := W3) o w.heap.size 0 hz3).trans e0
    have f1 := fun o => (World.cell?_alloc_past (w := W3) o w.heap.size 1 hz3).trans e1
    exact bodyPost_ret (v := .tuple #[.agg #[.int .i64 0, .int .i64 0], .int .i64 6]) (by simp [results, Try.f87, go_sem, f0, f1]) rfl ⟨rfl, hB.alloc (Nat.le_of_lt hz3) _⟩
end Hd
end Yteeghjhkfaeflaa
end Go.Proofs
/- The program's Shape and Target; the reference's Shape, Target and Kind. -/
namespace Go.Proofs
namespace Yteeghjhkfaeflaa
namespace Hd
open Go.RowKit

set_option maxRecDepth 100000 in
theorem shp63 (v : Int) (hv : UI v) (w : World) :
    Calls Try.prog 80 #[.int .u64 v] w fun e w' => e = .returned (.tuple #[.agg #[.int .i64 (shpP v), .int .i64 (shpR v)], .int .i64 (shpE v)]) ∧ Below w.heap.size w w' := by
  have K := Lib.hid (fun W => read75 v hv W)
  generalize shpP v = P at *
  generalize shpR v = R at *
  generalize shpE v = E at *
  go_enter Try.func80, Try.ntmps80
  go_wp2_with (go_at_call 87; refine (K.out _).mono ?_; rintro e w1 ⟨rfl, hb1⟩; obtain ⟨hc1, hf1⟩ := bcell hb1; have hb2 := below_end (alloc_below _ _) hb1)
  have c0 : w1.cell? ⟨w.heap.size, 0, none⟩ = some (.int .i64 0) := by rw [hc1 _ _ (by simp)]; simp
  have c1 : w1.cell? ⟨w.heap.size, 1, none⟩ = some (.int .i64 0) := by rw [hc1 _ _ (by simp)]; simp
  obtain ⟨e0, e1⟩ := two_set (.int .i64 P) (.int .i64 R) c0 c1
  have hB : Below w.heap.size w ((w1.setCell ⟨w.heap.size, 0, none⟩ (.int .i64 P)).setCell ⟨w.heap.size, 1, none⟩ (.int .i64 R)) := (hb2.setCell (Nat.le_refl _) _).setCell (Nat.le_refl _) _
  clear c0 c1 hc1 hf1
  generalize (w1.setCell ⟨w.heap.size, 0, none⟩ (.int .i64 P)).setCell ⟨w.heap.size, 1, none⟩ (.int .i64 R) = W3 at *
  exact bodyPost_ret (v := .tuple #[.agg #[.int .i64 P, .int .i64 R], .int .i64 E]) (by simp [results, Try.f80, go_sem, e0, e1]) rfl ⟨rfl, hB⟩
theorem ref_shape {v : Int} (hv : UI v) :
    (kindV v = 1 ∧ chkV (v / 256 % 256) (v / 65536 % 256) = 0 ∧ (packE (v / 256 % 256) (v / 65536 % 256) != v) = false ∧ v / 65536 % 256 = v / 65536) ∨
    (kindV v ≠ 1 ∧ ((chkV (v / 256 % 256) (v / 65536 % 256) != 0) = true ∨ (chkV (v / 256 % 256) (v / 65536 % 256) = 0 ∧ (packE (v / 256 % 256) (v / 65536 % 256) != v) = true))) := by
  obtain ⟨u0, u1⟩ := hv
  by_cases hk : kindV v = 1
  · left
    have ho := kind_one.1 hk
    obtain ⟨h1, h2⟩ := obj_spec.1 ho
    obtain ⟨m1, m2, m3⟩ := obj_mod ho
    have e : v / 65536 % 256 = v / 65536 := by omega
    refine ⟨hk, by rw [e]; exact h1, ?_, e⟩
    rw [e, show packE (v / 256 % 256) (v / 65536) = packV (v / 256 % 256) (v / 65536) from if_pos h1, h2]; simp
  · right
    refine ⟨hk, ?_⟩
    by_cases h1 : chkV (v / 256 % 256) (v / 65536 % 256) = 0
    · right
      refine ⟨h1, ?_⟩
      rw [show packE (v / 256 % 256) (v / 65536 % 256) = packV (v / 256 % 256) (v / 65536 % 256) from if_pos h1]
      simp only [bne_iff_ne, ne_eq]
      intro h2
      obtain ⟨z0, z1, z2⟩ := chk_zero.1 h1
      have h3 := h2
      unfold packV at h3
      have e : v / 65536 % 256 = v / 65536 := by omega
      rw [e] at h1 h2
      exact hk (kind_one.2 (obj_spec.2 ⟨h1, h2⟩))
    · left; simpa using h1
set_option maxRecDepth 100000 in
set_option maxHeartbeats 400000 in
theorem rshp50 (v : Int) (hv : UI v) (w : World) :
    Calls Try.prog 56 #[.int .u64 v] w fun e w' => e = .returned (.tuple #[.agg #[.int .i64 (shpP v), .int .i64 (shpR v)], .int .i64 (shpE v)]) ∧ Below w.heap.size w w' := by
  have C := ref_shape hv
  obtain ⟨u0, u1⟩ := hv
  have b1 : 0 ≤ v / 256 % 256 ∧ v / 256 % 256 ≤ 255 := by omega
  have b2 : 0 ≤ v / 65536 % 256 ∧ v / 65536 % 256 ≤ 255 := by omega
  obtain ⟨b10, b11⟩ := b1
  obtain ⟨b20, b21⟩ := b2
  have PK := Lib.hid (fun W => pack46 (v / 256 % 256) (v / 65536 % 256) ⟨by omega, by omega⟩ ⟨by omega, by omega⟩ W)
  rcases C with ⟨hk, hc, q1, hr⟩ | ⟨hk, q1⟩
  · have T := Lib.hid (show shpP v = v / 256 % 256 ∧ shpR v = v / 65536 % 256 ∧ shpE v = 0 from ⟨if_pos hk, (if_pos hk).trans hr.symm, if_pos hk⟩)
    rw [T.out.1, T.out.2.1, T.out.2.2]
    rw [hc] at PK
    clear T hk hc hr
    generalize packE (v / 256 % 256) (v / 65536 % 256) = p at *
    go_enter Try.func56, Try.ntmps56
    go_wp2_with (go_at_call 74; refine (PK.out _).mono ?_; rintro e w1 ⟨rfl, hb1⟩; obtain ⟨hc1, hf1⟩ := bcell hb1)
    have hb2 := below_end (below_end (alloc_below _ _) (alloc_below _ _)) hb1
    have c0 : w1.cell? ⟨w.heap.size, 0, none⟩ = some (.int .i64 0) := by rw [hc1 _ _ (by simp; omega)]; simp
    have c1 : w1.cell? ⟨w.heap.size, 1, none⟩ = some (.int .i64 0) := by rw [hc1 _ _ (by simp; omega)]; simp
    obtain ⟨e0, e1⟩ := two_set (.int .i64 (v / 256 % 256)) (.int .i64 (v / 65536 % 256)) c0 c1
    have hB : Below w.heap.size w ((w1.setCell ⟨w.heap.size, 0, none⟩ (.int .i64 (v / 256 % 256))).setCell ⟨w.heap.size, 1, none⟩ (.int .i64 (v / 65536 % 256))) := (hb2.setCell (Nat.le_refl _) _).setCell (Nat.le_refl _) _
    clear c0 c1 hc1 hf1 hb2
    generalize (w1.setCell ⟨w.heap.size, 0, none⟩ (.int .i64 (v / 256 % 256))).setCell ⟨w.heap.size, 1, none⟩ (.int .i64 (v / 65536 % 256)) = W3 at *
    exact bodyPost_ret (v := .tuple #[.agg #[.int .i64 (v / 256 % 256), .int .i64 (v / 65536 % 256)], .int .i64 0]) (by simp [results, Try.f56, go_sem, e0, e1]) rfl ⟨rfl, hB⟩
  · have T := Lib.hid (show shpP v = 0 ∧ shpR v = 0 ∧ shpE v = 6 from ⟨if_neg hk, if_neg hk, if_neg hk⟩)
    rw [T.out.1, T.out.2.1, T.out.2.2]
    clear T hk
    generalize packE (v / 256 % 256) (v / 65536 % 256) = p at *
    generalize chkV (v / 256 % 256) (v / 65536 % 256) = c at *
    rcases q1 with q1 | ⟨hc, q1⟩
    all_goals
      (try subst hc)
      go_enter Try.func56, Try.ntmps56
      go_wp2_with (go_at_call 74; refine (PK.out _).mono ?_; rintro e w1 ⟨rfl, hb1⟩; obtain ⟨hc1, hf1⟩ := bcell hb1)
      have hb2 := below_end (below_end (alloc_below _ _) (alloc_below _ _)) hb1
      have c0 : w1.cell? ⟨w.heap.size, 0, none⟩ = some (.int .i64 0) := by rw [hc1 _ _ (by simp; omega)]; simp
      have c1 : w1.cell? ⟨w.heap.size, 1, none⟩ = some (.int .i64 0) := by rw [hc1 _ _ (by simp; omega)]; simp
      obtain ⟨e0, e1⟩ := two_set (.int .i64 (0)) (.int .i64 (0)) c0 c1
      have hB : Below w.heap.size w ((w1.setCell ⟨w.heap.size, 0, none⟩ (.int .i64 (0))).setCell ⟨w.heap.size, 1, none⟩ (.int .i64 (0))) := (hb2.setCell (Nat.le_refl _) _).setCell (Nat.le_refl _) _
      clear c0 c1 hc1 hf1 hb2
      generalize (w1.setCell ⟨w.heap.size, 0, none⟩ (.int .i64 (0))).setCell ⟨w.heap.size, 1, none⟩ (.int .i64 (0)) = W3 at *
      exact bodyPost_ret (v := .tuple #[.agg #[.int .i64 (0), .int .i64 (0)], .int .i64 6]) (by simp [results, Try.f56, go_sem, e0, e1]) rfl ⟨rfl, hB⟩
end Hd
end Yteeghjhkfaeflaa
end Go.Proofs
/- Two shapes compared; the laws' awake answers true. -/
namespace Go.Proofs
namespace Yteeghjhkfaeflaa
namespace Hd
open Go.RowKit

def ints (cs : List Int) : Array Value := (cs.map (Value.int .i64)).toArray
theorem flds23 : ∀ f ∈ (Try.prog.fieldsOf 51).toList, f.name ≠ "_" ∧ f.type = 3 := by
  have h : (Try.prog.fieldsOf 51).toList.all (fun f => decide (f.name ≠ "_") && f.type == 3) = true := by kernel_rfl
  intro f hf
  have := List.all_eq_true.1 h f hf
  simpa using this
theorem offs23 : (Try.prog.fieldsOf 51).toList.map (·.offset) = [0, 1] := by kernel_rfl
theorem held23 : Try.prog.stoodInHeld 51 = false := by kernel_rfl
theorem eqF23 (d : Nat) (W : World) (xs ys : List Int) : ∀ (fs : List Field), (∀ f ∈ fs, f.name ≠ "_" ∧ f.type = 3) → (∀ f ∈ fs, f.offset < xs.length ∧ f.offset < ys.length) →
    (Op.eqFields (d + 1) (ints xs) (ints ys) fs).run Try.prog W = .ok (fs.all fun f => xs.getD f.offset 0 == ys.getD f.offset 0) W := by
  intro fs
  induction fs with
  | nil => intro _ _; rfl
  | cons f fs ih =>
    intro h1 h2
    obtain ⟨hn, ht⟩ := h1 f (by simp)
    obtain ⟨hx, hy⟩ := h2 f (by simp)
    have P3 : Try.prog.plainKey 3 = true := by kernel_rfl
    have e1 : ∀ (zs : List Int), f.offset < zs.length → (part 3 (ints zs) f.offset).run Try.prog W = .ok (.int .i64 (zs.getD f.offset 0)) W := fun zs hz => run_part_plain W P3 (by
      simp [ints, List.getD_eq_getElem?_getD, hz])
    have e3 := run_equalIn_int (P := Try.prog) W d 3 .i64 .i64 (xs.getD f.offset 0) (ys.getD f.offset 0) Try.underlying3
    have ih' := ih (fun g hg => h1 g (by simp [hg])) (fun g hg => h2 g (by simp [hg]))
    rw [Op.eqFields]
    simp only [hn, ne_eq, not_false_eq_true, if_true, ht, Sem.run_bind, e1 xs hx, e1 ys hy, Result.andThen_ok, e3, Sem.run_ite, ih', List.all_cons]
    cases hq : (xs.getD f.offset 0 == ys.getD f.offset 0) <;> simp [Sem.run_pure]
def same2 (a b c d : Int) : Bool := a == c && b == d
theorem eqIn23 (a b c d : Int) (W : World) : (Op.equalIn 10000 51 (.agg (ints [a, b])) (.agg (ints [c, d]))).run Try.prog W = .ok (same2 a b c d) W := by
  rw [run_equalIn_agg W 9999 51 _ _ (by kernel_rfl) held23]
  have ho := offs23
  rw [eqF23 9998 W [a, b] [c, d] _ flds23 (by
    intro f hf
    have : f.offset ∈ (Try.prog.fieldsOf 51).toList.map (·.offset) := List.mem_map.2 ⟨f, hf, rfl⟩
    rw [ho] at this
    simp at this
    simp
    omega)]
  have e : ((Try.prog.fieldsOf 51).toList.all fun f => [a, b].getD f.offset 0 == [c, d].getD f.offset 0) = (((Try.prog.fieldsOf 51).toList.map (·.offset)).all fun i => [a, b].getD i 0 == [c, d].getD i 0) := by
    rw [List.all_map]; rfl
  rw [e, ho]
  simp [same2]
theorem eql23 (a b c d : Int) (W : World) : (binOp .eql 51 (.agg #[.int .i64 a, .int .i64 b]) (.agg #[.int .i64 c, .int .i64 d])).run Try.prog W = .ok (.bool (same2 a b c d)) W := by
  rw [run_eql_struct]
  have h := eqIn23 a b c d W
  unfold ints at h
  simp only [List.map_cons, List.map_nil] at h
  rw [h]
  rfl
theorem neq23 (a b c d : Int) (W : World) : (binOp .neq 51 (.agg #[.int .i64 a, .int .i64 b]) (.agg #[.int .i64 c, .int .i64 d])).run Try.prog W = .ok (.bool (!same2 a b c d)) W := by
  rw [run_neq_struct]
  have h := eqIn23 a b c d W
  unfold ints at h
  simp only [List.map_cons, List.map_nil] at h
  rw [h]
  rfl
theorem same_refl (a b : Int) : same2 a b a b = true := by simp [same2]
theorem eqS (a b : Int) (W : World) : (binOp .eql 51 (.agg #[.int .i64 a, .int .i64 b]) (.agg #[.int .i64 a, .int .i64 b])).run Try.prog W = .ok (.bool true) W := by rw [eql23, same_refl]
end Hd
end Yteeghjhkfaeflaa
end Go.Proofs
