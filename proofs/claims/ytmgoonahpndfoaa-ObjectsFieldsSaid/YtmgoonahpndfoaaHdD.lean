/- Size, Pack, Forward, Kind, Shape and Target, the program's and the reference's. -/
import Derived.Test.YtmgoonahpndfoaaHdC
namespace Go.Proofs
namespace Ytmgoonahpndfoaa
namespace Hd
open Go.RowKit

def UI (v : Int) : Prop := 0 ≤ v ∧ v ≤ 18446744073709551615
theorem si_shape {v : Int} (h : UI v) : SI (v / 256 % 256) ∧ SI (v / 65536) := by
  obtain ⟨h0, h1⟩ := h
  exact ⟨⟨by omega, by omega⟩, ⟨by omega, by omega⟩⟩

set_option maxRecDepth 100000 in
theorem size36 (P R : Int) (hP : SI P) (hR : SI R) (w : World) :
    Calls Try.prog 36 #[.agg #[.int .i64 P, .int .i64 R]] w fun e w' => e = .returned (.tuple #[.int .i64 (sizeV P R), .int .i64 (chkV P R)]) ∧ Below w.heap.size w w' := by
  have H := Lib.hid (fun W => check44 P R hP hR W)
  obtain ⟨p0, p1⟩ := hP
  obtain ⟨r0, r1⟩ := hR
  by_cases h : chkV P R = 0
  · have T := Lib.hid (show sizeV P R = 1 + P + R from if_pos h)
    have hz := chk_zero.1 h
    obtain ⟨z0, z1, z2⟩ := hz
    rw [h] at H
    rw [h]
    clear h
    go_enter Try.func36, Try.ntmps36
    go_wp2_with (go_at_call 44; refine (H.out _).mono ?_; rintro e w1 ⟨rfl, hb1⟩; obtain ⟨hc1, hf1⟩ := bcell hb1)
    go_ret2
    exact ⟨by rw [T.out]; rfl, below_end (alloc_below _ _) hb1⟩
  · have T := Lib.hid (show sizeV P R = 0 from if_neg h)
    obtain ⟨c, hc⟩ : ∃ c, chkV P R = c := ⟨_, rfl⟩
    rw [hc] at H h
    rw [hc]
    clear hc
    have q1 : (c != 0) = true := by simpa using h
    go_enter Try.func36, Try.ntmps36
    go_wp2_with (go_at_call 44; refine (H.out _).mono ?_; rintro e w1 ⟨rfl, hb1⟩; obtain ⟨hc1, hf1⟩ := bcell hb1)
    go_ret2
    exact ⟨by rw [T.out]; rfl, below_end (alloc_below _ _) hb1⟩
set_option maxRecDepth 100000 in
theorem pack39 (P R : Int) (hP : SI P) (hR : SI R) (w : World) :
    Calls Try.prog 39 #[.agg #[.int .i64 P, .int .i64 R]] w fun e w' => e = .returned (.tuple #[.int .u64 (packE P R), .int .i64 (chkV P R)]) ∧ Below w.heap.size w w' := by
  have H := Lib.hid (fun W => check58 P R hP hR W)
  obtain ⟨p0, p1⟩ := hP
  obtain ⟨r0, r1⟩ := hR
  by_cases h : chkV P R = 0
  · have T := Lib.hid (show packE P R = packV P R from if_pos h)
    have hz := chk_zero.1 h
    obtain ⟨z0, z1, z2⟩ := hz
    rw [h] at H
    rw [h]
    clear h
    go_enter Try.func39, Try.ntmps39
    go_wp2_with (first
      | (go_at_call 58; refine (H.out _).mono ?_; rintro e w1 ⟨rfl, hb1⟩; obtain ⟨hc1, hf1⟩ := bcell hb1; have hb2 := below_end (alloc_below _ _) hb1)
      | (go_at_call 59; refine (head59 P R z0 z1 z2 _).mono ?_; rintro e w2 ⟨rfl, hb3⟩))
    go_ret2
    exact ⟨by rw [T.out]; rfl, below_end hb2 hb3⟩
  · have T := Lib.hid (show packE P R = 0 from if_neg h)
    obtain ⟨c, hc⟩ : ∃ c, chkV P R = c := ⟨_, rfl⟩
    rw [hc] at H h
    rw [hc]
    clear hc
    have q1 : (c != 0) = true := by simpa using h
    go_enter Try.func39, Try.ntmps39
    go_wp2_with (go_at_call 58; refine (H.out _).mono ?_; rintro e w1 ⟨rfl, hb1⟩; obtain ⟨hc1, hf1⟩ := bcell hb1)
    go_ret2
    exact ⟨by rw [T.out]; rfl, below_end (alloc_below _ _) hb1⟩
set_option maxRecDepth 100000 in
theorem pack46 (P R : Int) (hP : SI P) (hR : SI R) (w : World) :
    Calls Try.prog 46 #[.agg #[.int .i64 P, .int .i64 R]] w fun e w' => e = .returned (.tuple #[.int .u64 (packE P R), .int .i64 (chkV P R)]) ∧ Below w.heap.size w w' := by
  have H := Lib.hid (fun W => check44 P R hP hR W)
  obtain ⟨p0, p1⟩ := hP
  obtain ⟨r0, r1⟩ := hR
  by_cases h : chkV P R = 0
  · have T := Lib.hid (show packE P R = packV P R from if_pos h)
    have hz := chk_zero.1 h
    obtain ⟨z0, z1, z2⟩ := hz
    rw [h] at H
    rw [h]
    clear h
    have T2 := Lib.hid (show packV P R = 1 + 256 * P + 65536 * R from rfl)
    go_enter Try.func46, Try.ntmps46
    go_wp2_with (first
      | (go_at_call 44; refine (H.out _).mono ?_; rintro e w1 ⟨rfl, hb1⟩; obtain ⟨hc1, hf1⟩ := bcell hb1; have hb2 := below_end (alloc_below _ _) hb1))
    go_ret2
    exact ⟨by rw [T.out, T2.out]; rfl, hb2⟩
  · have T := Lib.hid (show packE P R = 0 from if_neg h)
    obtain ⟨c, hc⟩ : ∃ c, chkV P R = c := ⟨_, rfl⟩
    rw [hc] at H h
    rw [hc]
    clear hc
    have q1 : (c != 0) = true := by simpa using h
    go_enter Try.func46, Try.ntmps46
    go_wp2_with (go_at_call 44; refine (H.out _).mono ?_; rintro e w1 ⟨rfl, hb1⟩; obtain ⟨hc1, hf1⟩ := bcell hb1)
    go_ret2
    exact ⟨by rw [T.out]; rfl, below_end (alloc_below _ _) hb1⟩
def fwdE (a : Int) : Int := if 1 ≤ a ∧ a ≤ 1600 then 0 else 7
def fwdV (a : Int) : Int := if 1 ≤ a ∧ a ≤ 1600 then 2 + a * 256 else 0
set_option maxRecDepth 100000 in
theorem fwd79 (a : Int) (w : World) :
    Calls Try.prog 79 #[.int .i64 a] w fun e w' => e = .returned (.tuple #[.int .u64 (fwdV a), .int .i64 (fwdE a)]) ∧ w = w' := by
  by_cases h : 1 ≤ a ∧ a ≤ 1600
  · have T1 := Lib.hid (show fwdE a = 0 from if_pos h)
    have T2 := Lib.hid (show fwdV a = 2 + a * 256 from if_pos h)
    obtain ⟨h0, h1⟩ := h
    have q1 : decide (a < 1) = false := decide_eq_false (by omega)
    have q2 : decide (1600 < a) = false := decide_eq_false (by omega)
    go_enter Try.func79, Try.ntmps79
    go_wp2_with (go_at_call 81; refine (mark81 a h0 h1 _).mono ?_; rintro e w' ⟨rfl, rfl⟩)
    go_ret2
    exact ⟨by rw [T1.out, T2.out]; rfl, rfl⟩
  · have T1 := Lib.hid (show fwdE a = 7 from if_neg h)
    have T2 := Lib.hid (show fwdV a = 0 from if_neg h)
    by_cases h1 : a < 1
    · have q1 : decide (a < 1) = true := decide_eq_true h1
      clear h
      go_enter Try.func79, Try.ntmps79
      go_wp2
      go_ret2
      exact ⟨by rw [T1.out, T2.out]; rfl, rfl⟩
    · have q1 : decide (a < 1) = false := decide_eq_false h1
      have q2 : decide (1600 < a) = true := decide_eq_true (by omega)
      clear h
      go_enter Try.func79, Try.ntmps79
      go_wp2
      go_ret2
      exact ⟨by rw [T1.out, T2.out]; rfl, rfl⟩
def objB (v : Int) : Bool := decide (chkV (v / 256 % 256) (v / 65536) = 0) && decide (packV (v / 256 % 256) (v / 65536) = v)
def markB (v : Int) : Bool := decide (1 ≤ v / 256 ∧ v / 256 ≤ 1600) && decide (2 + v / 256 * 256 = v)
def kindV (v : Int) : Int := if objB v = true then 1 else if markB v = true then 2 else 0
theorem obj_spec {v : Int} : objB v = true ↔ chkV (v / 256 % 256) (v / 65536) = 0 ∧ packV (v / 256 % 256) (v / 65536) = v := by simp [objB]
theorem mark_spec {v : Int} : markB v = true ↔ (1 ≤ v / 256 ∧ v / 256 ≤ 1600) ∧ 2 + v / 256 * 256 = v := by simp [markB]
/-- what is an object's header, once its parts are given as letters -/
theorem kind_cases (v : Int) :
    (∃ p, packE (v / 256 % 256) (v / 65536) = p ∧ chkV (v / 256 % 256) (v / 65536) = 0 ∧ (p == v) = true ∧ kindV v = 1) ∨
    (kindV v ≠ 1 ∧ ((chkV (v / 256 % 256) (v / 65536) == 0) = false ∨ (chkV (v / 256 % 256) (v / 65536) = 0 ∧ (packE (v / 256 % 256) (v / 65536) == v) = false)) ∧
      ((fwdE (v / 256) = 0 ∧ (fwdV (v / 256) == v) = true ∧ kindV v = 2) ∨ ((fwdE (v / 256) = 0 ∧ (fwdV (v / 256) == v) = false) ∨ (fwdE (v / 256) == 0) = false) ∧ kindV v = 0)) := by
  by_cases ho : objB v = true
  · left
    obtain ⟨h1, h2⟩ := obj_spec.1 ho
    refine ⟨_, rfl, h1, ?_, if_pos ho⟩
    rw [show packE (v / 256 % 256) (v / 65536) = packV (v / 256 % 256) (v / 65536) from if_pos h1, h2]; simp
  · right
    have k1 : kindV v = if markB v = true then 2 else 0 := if_neg ho
    refine ⟨?_, ?_, ?_⟩
    · rw [k1]; split <;> decide
    · by_cases h1 : chkV (v / 256 % 256) (v / 65536) = 0
      · right
        refine ⟨h1, ?_⟩
        rw [show packE (v / 256 % 256) (v / 65536) = packV (v / 256 % 256) (v / 65536) from if_pos h1]
        simp only [beq_eq_false_iff_ne]
        exact fun h2 => ho (obj_spec.2 ⟨h1, h2⟩)
      · left; simpa using h1
    · by_cases hm : markB v = true
      · left
        obtain ⟨h1, h2⟩ := mark_spec.1 hm
        refine ⟨if_pos h1, ?_, by rw [k1, if_pos hm]⟩
        rw [show fwdV (v / 256) = 2 + v / 256 * 256 from if_pos h1, h2]; simp
      · right
        refine ⟨?_, by rw [k1, if_neg hm]⟩
        by_cases h1 : 1 ≤ v / 256 ∧ v / 256 ≤ 1600
        · left
          refine ⟨if_pos h1, ?_⟩
          rw [show fwdV (v / 256) = 2 + v / 256 * 256 from if_pos h1]
          simp only [beq_eq_false_iff_ne]
          exact fun h2 => hm (mark_spec.2 ⟨h1, h2⟩)
        · right
          rw [show fwdE (v / 256) = 7 from if_neg h1]; decide
set_option maxRecDepth 100000 in
theorem kind78 (v : Int) (hv : UI v) (w : World) :
    Calls Try.prog 78 #[.int .u64 v] w fun e w' => e = .returned (.int .i64 (kindV v)) ∧ Below w.heap.size w w' := by
  have hs := si_shape hv
  have K := Lib.hid (fun W => pack39 _ _ hs.1 hs.2 W)
  have F := Lib.hid (fun W => fwd79 (v / 256) W)
  obtain ⟨u0, u1⟩ := hv
  have S := Lib.hid (fun W => shape76 v u0 u1 W)
  have C := kind_cases v
  clear hs
  generalize v / 256 % 256 = P at *
  generalize v / 65536 = R at *
  rcases C with ⟨p, hp, hc, q1, hk⟩ | ⟨-, h1, h2⟩
  · rw [hp, hc] at K
    have T := Lib.hid hk
    clear hk hp hc
    go_enter Try.func78, Try.ntmps78
    go_wp2_with (first
      | (go_at_call 76; refine (S.out _).mono ?_; rintro e w1 ⟨rfl, hb1⟩; obtain ⟨hc1, hf1⟩ := bcell hb1)
      | (go_at_call 39; refine (K.out _).mono ?_; rintro e w2 ⟨rfl, hb2⟩; have hb3 := below_end hb1 hb2)
      | (go_at_call 80; refine (target80 v u0 u1 _).mono ?_; rintro e w' ⟨rfl, rfl⟩)
      | (go_at_call 79; refine (F.out _).mono ?_; rintro e w' ⟨rfl, rfl⟩))
    go_ret
    exact ⟨by rw [T.out]; rfl, hb3⟩
  · generalize packE P R = p at *
    generalize chkV P R = c at *
    generalize fwdE (v / 256) = fe at *
    generalize fwdV (v / 256) = fv at *
    rcases h1 with q1 | ⟨hc, q1⟩ <;> rcases h2 with ⟨hf, q2, hk⟩ | ⟨⟨hf, q2⟩ | q2, hk⟩
    all_goals
      (try subst hc)
      (try subst hf)
      have T := Lib.hid hk
      clear hk
      go_enter Try.func78, Try.ntmps78
      go_wp2_with (first
        | (go_at_call 76; refine (S.out _).mono ?_; rintro e w1 ⟨rfl, hb1⟩; obtain ⟨hc1, hf1⟩ := bcell hb1)
        | (go_at_call 39; refine (K.out _).mono ?_; rintro e w2 ⟨rfl, hb2⟩; have hb3 := below_end hb1 hb2)
        | (go_at_call 80; refine (target80 v u0 u1 _).mono ?_; rintro e w' ⟨rfl, rfl⟩)
        | (go_at_call 79; refine (F.out _).mono ?_; rintro e w' ⟨rfl, rfl⟩))
      go_ret
      exact ⟨by rw [T.out]; rfl, hb3⟩
end Hd
end Ytmgoonahpndfoaa
end Go.Proofs
