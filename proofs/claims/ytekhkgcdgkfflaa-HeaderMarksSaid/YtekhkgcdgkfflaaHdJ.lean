/- The law HeaderMarks answers true. -/
import Derived.Test.YtekhkgcdgkfflaaHdI
namespace Go.Proofs
namespace Ytekhkgcdgkfflaa
open Go.RowKit

theorem in25 (m : Nat) (m1 : 1 ≤ m) (m2 : m ≤ 64) (w : World) : Calls Try.prog 25 #[.int .i64 m] w fun e w' => ∃ b cap, e = .returned (.tuple #[.slice (some ⟨b, 0, none⟩) m cap, .int .i64 0]) ∧ ShAt w' (.slice (some ⟨b, 0, none⟩) m cap) m ∧ Below w.heap.size w w' := by
  refine (shapes25 m w).mono ?_
  rintro e w' (⟨v, k, hk, -, -, rfl, hs, hb⟩ | ⟨h, -, -⟩)
  · obtain rfl : k = m := by omega
    have hs' := hs
    obtain ⟨b, cap, rfl, hc⟩ := hs
    exact ⟨b, cap, rfl, hs', hb⟩
  · omega
theorem in26 (m : Nat) (m1 : 1 ≤ m) (m2 : m ≤ 64) (w : World) : Calls Try.prog 26 #[.int .i64 m] w fun e w' => ∃ b cap, e = .returned (.tuple #[.slice (some ⟨b, 0, none⟩) m cap, .int .i64 0]) ∧ ShAt w' (.slice (some ⟨b, 0, none⟩) m cap) m ∧ Below w.heap.size w w' := by
  refine (rshapes26 m w).mono ?_
  rintro e w' (⟨v, k, hk, -, -, rfl, hs, hb⟩ | ⟨h, -, -⟩)
  · obtain rfl : k = m := by omega
    have hs' := hs
    obtain ⟨b, cap, rfl, hc⟩ := hs
    exact ⟨b, cap, rfl, hs', hb⟩
  · omega
theorem out25 (n : Int) (h : n < 1 ∨ 64 < n) (w : World) : Calls Try.prog 25 #[.int .i64 n] w fun e w' => e = .returned (.tuple #[.slice none 0 0, .int .i64 7]) ∧ Below w.heap.size w w' := by
  refine (shapes25 n w).mono ?_
  rintro e w' (⟨v, k, hk, h1, h2, -, -, -⟩ | ⟨-, h, hb⟩)
  · omega
  · exact ⟨h, hb⟩
theorem out26 (n : Int) (h : n < 1 ∨ 64 < n) (w : World) : Calls Try.prog 26 #[.int .i64 n] w fun e w' => e = .returned (.tuple #[.slice none 0 0, .int .i64 7]) ∧ Below w.heap.size w w' := by
  refine (rshapes26 n w).mono ?_
  rintro e w' (⟨v, k, hk, h1, h2, -, -, -⟩ | ⟨-, h, hb⟩)
  · omega
  · exact ⟨h, hb⟩
theorem ShAt.at {W : World} {b m cap : Nat} (h : ShAt W (.slice (some ⟨b, 0, none⟩) m cap) m) (k : Nat) (hk : k < m) : W.cell? ⟨b, k * 2, none⟩ = some (.int .i64 (k : Int)) ∧ W.cell? ⟨b, k * 2 + 1, none⟩ = some (.int .i64 ((m : Int) - 1 - (k : Int))) := by
  obtain ⟨b', cap', he, hc⟩ := h
  simp only [Value.slice.injEq, Option.some.injEq, Addr.mk.injEq, and_true] at he
  obtain ⟨rfl, -⟩ := he
  exact hc k hk
set_option maxRecDepth 100000 in
set_option maxHeartbeats 1000000 in
theorem marks5 (a n : Int) (_ha : SI a) (hn : SI n) (w : World) :
    Calls Try.prog 5 #[.int .i64 a, .int .i64 n] w fun e w' => e = .returned (.bool true) ∧ Below w.heap.size w w' := by
  have F23 := Lib.hid (fwd23 a)
  have F24 := Lib.hid (fwd24 a)
  obtain ⟨n0, n1⟩ := hn
  generalize fwdV a = f at *
  generalize fwdE a = g at *
  by_cases h : n < 1 ∨ 64 < n
  · have F25 := Lib.hid (out25 n h)
    have F26 := Lib.hid (out26 n h)
    clear h
    go_enter Try.func5, Try.ntmps5
    go_wp2_with (first
      | (go_at_call 23; refine (F23.out _).mono ?_; rintro e w' ⟨rfl, rfl⟩)
      | (go_at_call 24; refine (F24.out _).mono ?_; rintro e w' ⟨rfl, rfl⟩)
      | (go_at_call 25; refine (F25.out _).mono ?_; rintro e w1 ⟨rfl, hb1⟩)
      | (go_at_call 26; refine (F26.out _).mono ?_; rintro e w2 ⟨rfl, hb2⟩; have hB := Lib.hid (below_end hb1 hb2)))
    go_loop [13] (fun i => i = .int .i64 0) (fun _ => 0)
    case atStart => rfl
    case round =>
      subst hrel
      go_wp2_with (go_at_call 16; refine (awake16 _).mono ?_; rintro e w3 ⟨rfl, hb3⟩)
      go_ret
      exact ⟨rfl, below_end hB.out hb3⟩
  · obtain ⟨m, rfl⟩ : ∃ m : Nat, n = (m : Int) := ⟨n.toNat, by omega⟩
    have m1 : 1 ≤ m := by omega
    have m2 : m ≤ 64 := by omega
    clear h
    go_enter Try.func5, Try.ntmps5
    go_wp2_with (first
      | (go_at_call 23; refine (F23.out _).mono ?_; rintro e w' ⟨rfl, rfl⟩)
      | (go_at_call 24; refine (F24.out _).mono ?_; rintro e w' ⟨rfl, rfl⟩)
      | (go_at_call 25; refine (in25 m m1 m2 _).mono ?_; rintro e w1 ⟨b1, c1, rfl, hs1, hb1⟩)
      | (go_at_call 26; refine (in26 m m1 m2 _).mono ?_; rintro e w2 ⟨b2, c2, rfl, hs2, hb2⟩; have hB := Lib.hid (And.intro (hs1.below hb2) (And.intro hs2 (below_end hb1 hb2))); clear hs1 hs2 hb1 hb2))
    go_loopw [13] (fun i wr => ∃ k : Nat, k ≤ m ∧ i = .int .i64 k ∧ Hid (ShAt wr (.slice (some ⟨b1, 0, none⟩) m c1) m ∧ ShAt wr (.slice (some ⟨b2, 0, none⟩) m c2) m ∧ Below w.heap.size w wr)) (fun i _ => m - (intOf i).toNat)
    case atStart => exact ⟨0, by omega, rfl, hB⟩
    case round =>
      clear hB
      obtain ⟨k, hk, rfl, hB⟩ := hrel
      by_cases hlt : k < m
      · have hlt' : (k : Int) < (m : Int) := by omega
        obtain ⟨g0, g1⟩ := hB.out.1.at k hlt
        obtain ⟨g2, g3⟩ := hB.out.2.1.at k hlt
        have hq := fun W => neq23 (k : Int) ((m : Int) - 1 - (k : Int)) (k : Int) ((m : Int) - 1 - (k : Int)) W
        simp only [same_refl, Bool.not_true] at hq
        go_wp2
        go_quiet (fail)
        go_wp2
        go_roundw
        case rel => exact ⟨k + 1, by omega, by go_num, Lib.hid ⟨hB.out.1, hB.out.2.1, below_drewN hB.out.2.2 _⟩⟩
        case measure => simp [intOf]; omega
      · obtain rfl : k = m := by omega
        go_wp2_with (go_at_call 16; refine (awake16 _).mono ?_; rintro e w3 ⟨rfl, hb3⟩)
        go_ret
        exact ⟨rfl, below_end hB.out.2.2 hb3⟩
end Ytekhkgcdgkfflaa
end Go.Proofs
