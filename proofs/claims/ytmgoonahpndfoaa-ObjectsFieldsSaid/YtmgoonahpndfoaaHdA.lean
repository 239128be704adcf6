/- Shapes, their sizes and headers as plain functions on numbers; Check and Size, the program's and the reference's. -/
import Derived.Test.YtmgoonahpndfoaaProg
import Derived.WalkKit
import Derived.OwnWalk
import Derived.BigQuiet
import Derived.Deep.QuietTactic
import Derived.StillTailTactics
import Derived.Laws.BitsAllLaws
import Derived.Lib.Hide
import Derived.Below
import Derived.Outline
namespace Go.Proofs
namespace Ytmgoonahpndfoaa
namespace Hd
open Go.RowKit

def SI (P : Int) : Prop := -9223372036854775808 ≤ P ∧ P ≤ 9223372036854775807
def chkV (P R : Int) : Int := if P < 0 ∨ R < 0 then 7 else if 63 < P + R then 11 else 0
def packV (P R : Int) : Int := 1 + 256 * P + 65536 * R
theorem chk_range {P R : Int} (h : P < 0 ∨ R < 0) : chkV P R = 7 := if_pos h
theorem chk_large {P R : Int} (h : ¬ (P < 0 ∨ R < 0)) (h2 : 63 < P + R) : chkV P R = 11 := by unfold chkV; rw [if_neg h, if_pos h2]
theorem chk_ok {P R : Int} (h : ¬ (P < 0 ∨ R < 0)) (h2 : ¬ 63 < P + R) : chkV P R = 0 := by unfold chkV; rw [if_neg h, if_neg h2]
theorem chk_zero {P R : Int} : chkV P R = 0 ↔ 0 ≤ P ∧ 0 ≤ R ∧ P + R ≤ 63 := by
  unfold chkV
  constructor
  · intro h; split at h
    · omega
    · split at h <;> omega
  · intro h; rw [if_neg (by omega), if_neg (by omega)]
theorem alloc_below (w : World) (o : Obj) : Below w.heap.size w (w.alloc o) := (Below.refl _ _).alloc (Nat.le_refl _) _
theorem below_end {w W W' : World} (hB : Below w.heap.size w W) (h : Below W.heap.size W W') : Below w.heap.size w W' := hB.trans (h.mono hB.size)

set_option maxRecDepth 100000 in
theorem check58 (P R : Int) (hP : SI P) (hR : SI R) (w : World) :
    Calls Try.prog 58 #[.agg #[.int .i64 P, .int .i64 R]] w fun e w' => e = .returned (.int .i64 (chkV P R)) ∧ Below w.heap.size w w' := by
  obtain ⟨p0, p1⟩ := hP
  obtain ⟨r0, r1⟩ := hR
  by_cases h1 : P < 0
  · have q1 : decide (P < 0) = true := decide_eq_true h1
    have T := Lib.hid (chk_range (P := P) (R := R) (.inl h1))
    go_enter Try.func58, Try.ntmps58
    go_wp2
    go_ret
    exact ⟨by rw [T.out]; rfl, alloc_below _ _⟩
  · have q1 : decide (P < 0) = false := decide_eq_false h1
    by_cases h2 : R < 0
    · have q2 : decide (R < 0) = true := decide_eq_true h2
      have T := Lib.hid (chk_range (P := P) (R := R) (.inr h2))
      go_enter Try.func58, Try.ntmps58
      go_wp2
      go_ret
      exact ⟨by rw [T.out]; rfl, alloc_below _ _⟩
    · have q2 : decide (R < 0) = false := decide_eq_false h2
      by_cases h3 : 63 < P + R
      · have q3 : decide (63 - P < R) = true := decide_eq_true (by omega)
        have T := Lib.hid (chk_large (P := P) (R := R) (by omega) h3)
        go_enter Try.func58, Try.ntmps58
        go_wp2
        go_ret
        exact ⟨by rw [T.out]; rfl, alloc_below _ _⟩
      · have q3 : decide (63 - P < R) = false := decide_eq_false (by omega)
        have T := Lib.hid (chk_ok (P := P) (R := R) (by omega) h3)
        go_enter Try.func58, Try.ntmps58
        go_wp2
        go_ret
        exact ⟨by rw [T.out]; rfl, alloc_below _ _⟩
set_option maxRecDepth 100000 in
theorem check44 (P R : Int) (hP : SI P) (hR : SI R) (w : World) :
    Calls Try.prog 44 #[.agg #[.int .i64 P, .int .i64 R]] w fun e w' => e = .returned (.int .i64 (chkV P R)) ∧ Below w.heap.size w w' := by
  obtain ⟨p0, p1⟩ := hP
  obtain ⟨r0, r1⟩ := hR
  by_cases h1 : P < 0
  · have q1 : decide (P < 0) = true := decide_eq_true h1
    have T := Lib.hid (chk_range (P := P) (R := R) (.inl h1))
    go_enter Try.func44, Try.ntmps44
    go_wp2
    go_ret
    exact ⟨by rw [T.out]; rfl, alloc_below _ _⟩
  · have q1 : decide (P < 0) = false := decide_eq_false h1
    by_cases h2 : R < 0
    · have q2 : decide (R < 0) = true := decide_eq_true h2
      have T := Lib.hid (chk_range (P := P) (R := R) (.inr h2))
      go_enter Try.func44, Try.ntmps44
      go_wp2
      go_ret
      exact ⟨by rw [T.out]; rfl, alloc_below _ _⟩
    · have q2 : decide (R < 0) = false := decide_eq_false h2
      by_cases h3 : 63 < P + R
      · have T := Lib.hid (chk_large (P := P) (R := R) (by omega) h3)
        by_cases h4 : 64 < P
        · have q4 : decide (64 < P) = true := decide_eq_true h4
          go_enter Try.func44, Try.ntmps44
          go_wp2
          go_ret
          exact ⟨by rw [T.out]; rfl, alloc_below _ _⟩
        · have q4 : decide (64 < P) = false := decide_eq_false h4
          by_cases h5 : 64 < R
          · have q5 : decide (64 < R) = true := decide_eq_true h5
            go_enter Try.func44, Try.ntmps44
            go_wp2
            go_ret
            exact ⟨by rw [T.out]; rfl, alloc_below _ _⟩
          · have q5 : decide (64 < R) = false := decide_eq_false h5
            have q3 : decide (64 < 1 + P + R) = true := decide_eq_true (by omega)
            go_enter Try.func44, Try.ntmps44
            go_wp2
            go_ret
            exact ⟨by rw [T.out]; rfl, alloc_below _ _⟩
      · have T := Lib.hid (chk_ok (P := P) (R := R) (by omega) h3)
        have q4 : decide (64 < P) = false := decide_eq_false (by omega)
        have q5 : decide (64 < R) = false := decide_eq_false (by omega)
        have q3 : decide (64 < 1 + P + R) = false := decide_eq_false (by omega)
        go_enter Try.func44, Try.ntmps44
        go_wp2
        go_ret
        exact ⟨by rw [T.out]; rfl, alloc_below _ _⟩
theorem bcell {W w1 : World} (hb : Below W.heap.size W w1) : (∀ b o, b < W.heap.size → w1.cell? ⟨b, o, none⟩ = W.cell? ⟨b, o, none⟩) ∧ (∀ b o, b < W.heap.size → w1.frozen? ⟨b, o, none⟩ = W.frozen? ⟨b, o, none⟩) :=
  ⟨fun b o h => hb.cell (p := ⟨b, o, none⟩) h, fun b o h => hb.frozen (p := ⟨b, o, none⟩) h⟩
def sizeV (P R : Int) : Int := if chkV P R = 0 then 1 + P + R else 0
def packE (P R : Int) : Int := if chkV P R = 0 then packV P R else 0
set_option maxRecDepth 100000 in
theorem size38 (P R : Int) (hP : SI P) (hR : SI R) (w : World) :
    Calls Try.prog 38 #[.agg #[.int .i64 P, .int .i64 R]] w fun e w' => e = .returned (.tuple #[.int .i64 (sizeV P R), .int .i64 (chkV P R)]) ∧ Below w.heap.size w w' := by
  have H := Lib.hid (fun W => check58 P R hP hR W)
  obtain ⟨p0, p1⟩ := hP
  obtain ⟨r0, r1⟩ := hR
  by_cases h : chkV P R = 0
  · have T := Lib.hid (show sizeV P R = 1 + P + R from if_pos h)
    have hz := chk_zero.1 h
    obtain ⟨z0, z1, z2⟩ := hz
    have h' := Lib.hid h
    rw [h] at H
    rw [h]
    clear h
    go_enter Try.func38, Try.ntmps38
    go_wp2_with (go_at_call 58; refine (H.out _).mono ?_; rintro e w1 ⟨rfl, hb1⟩; obtain ⟨hc1, hf1⟩ := bcell hb1)
    go_ret2
    exact ⟨by rw [T.out]; rfl, below_end (alloc_below _ _) hb1⟩
  · have T := Lib.hid (show sizeV P R = 0 from if_neg h)
    obtain ⟨c, hc⟩ : ∃ c, chkV P R = c := ⟨_, rfl⟩
    rw [hc] at H h
    rw [hc]
    clear hc
    have q1 : (c != 0) = true := by simpa using h
    go_enter Try.func38, Try.ntmps38
    go_wp2_with (go_at_call 58; refine (H.out _).mono ?_; rintro e w1 ⟨rfl, hb1⟩; obtain ⟨hc1, hf1⟩ := bcell hb1)
    go_ret2
    exact ⟨by rw [T.out]; rfl, below_end (alloc_below _ _) hb1⟩
end Hd
end Ytmgoonahpndfoaa
end Go.Proofs
