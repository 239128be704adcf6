/- The law WordsNames. -/
import Derived.Test.YtkhggnfhhafkjaaDoorShown
namespace Go.Proofs
namespace YtkhggnfhhafkjaaDoor
open Go.RowKit

theorem dig17w (w : World) (n : Int) (h0 : -9223372036854775808 ≤ n) (h1 : n ≤ 9223372036854775807) (W : World) (hL : Hid (Laid w)) (hB : Below w.heap.size w W) :
    Calls Tryd.prog 17 #[.int .i64 n] W fun e w' => e = .returned (.string ⟨(Lib.itoa n).toArray⟩) ∧ Below w.heap.size w w' :=
  (digits17 n h0 h1 W (Lib.hid (hL.out.self hB))).mono fun _ _ h => ⟨h.1, hB.trans (h.2.mono hB.size)⟩
theorem dig18w (w : World) (n : Int) (h0 : -9223372036854775808 ≤ n) (h1 : n ≤ 9223372036854775807) (W : World) (hB : Below w.heap.size w W) :
    Calls Tryd.prog 18 #[.int .i64 n] W fun e w' => e = .returned (.string ⟨(Lib.itoa n).toArray⟩) ∧ Below w.heap.size w w' :=
  (rdig18 n h0 h1 W).mono fun _ _ h => ⟨h.1, hB.trans (h.2.mono hB.size)⟩
theorem shown12w (w : World) (W : World) (hL : Hid (Laid w)) (hB : Below w.heap.size w W) :
    Calls Tryd.prog 12 #[] W fun e w' => e = .returned (.bool true) ∧ Below w.heap.size w w' :=
  (shown12 W (hL.out.self hB)).mono fun _ _ h => ⟨h.1, hB.trans (h.2.mono hB.size)⟩

set_option maxRecDepth 100000 in
theorem names3_long (s : ByteArray) (lo hi : Int) (hs : 1000 < s.size) (w : World) (hL : Laid w) :
    Calls Tryd.prog 3 #[.string s, .int .i64 lo, .int .i64 hi] w fun e w' => e = .returned (.bool true) ∧ Below w.heap.size w w' := by
  have HL := Lib.hid hL
  clear hL
  have q : decide ((1000 : Int) < (s.size : Int)) = true := by simp; omega
  go_enter Tryd.func3, Tryd.ntmps3
  go_wp2_with (go_at_call 12; refine (shown12 _ HL.out).mono ?_; rintro e w1 ⟨rfl, hB1⟩)
  exact bodyPost_ret (v := .bool true) (by simp [results, Tryd.f3, go_sem]) rfl ⟨rfl, hB1⟩

set_option maxRecDepth 100000 in
set_option maxHeartbeats 4000000 in
theorem names3_short (s : ByteArray) (lo hi : Int) (hs : s.size ≤ 1000) (l0 : -9223372036854775808 ≤ lo) (l1 : lo ≤ 9223372036854775807) (h0 : -9223372036854775808 ≤ hi) (h1 : hi ≤ 9223372036854775807) (w : World) (hL : Laid w) :
    Calls Tryd.prog 3 #[.string s, .int .i64 lo, .int .i64 hi] w fun e w' => e = .returned (.bool true) ∧ Below w.heap.size w w' := by
  have HL := Lib.hid hL
  clear hL
  have q : decide ((1000 : Int) < (s.size : Int)) = false := by simp; omega
  have hm : s.size ≤ maxLen := by unfold maxLen; omega
  have hk : s.size ≤ 1000000 := by omega
  go_enter Tryd.func3, Tryd.ntmps3
  go_wp2_with (first
    | (go_at_call 13; refine (int13 s lo hi _ HL.out hk).mono ?_; rintro e w1 ⟨rfl, hB1⟩; simp only [intV])
    | (go_at_call 14; refine (rint14 s lo hi _ hk).mono ?_; rintro e w2 ⟨rfl, rfl⟩; simp only [intV])
    | (go_at_call 15; refine (name15 s _ hm).mono ?_; rintro e w3 ⟨rfl, rfl⟩)
    | (go_at_call 16; refine (name16 s _ hm).mono ?_; rintro e w4 ⟨rfl, rfl⟩)
    | (go_at_call 17; refine (dig17w w _ (by assumption) (by assumption) _ HL (by assumption)).mono ?_; rintro e w2 ⟨rfl, hB2⟩)
    | (go_at_call 18; refine (dig18w w _ (by assumption) (by assumption) _ (by assumption)).mono ?_; rintro e w3 ⟨rfl, hB3⟩)
    | (go_at_call 12; refine (shown12w w _ HL (by assumption)).mono ?_; rintro e w6 ⟨rfl, hB6⟩))
  exact bodyPost_ret (v := .bool true) (by simp [results, Tryd.f3, go_sem]) rfl ⟨rfl, hB6⟩

/-- WordsNames answers true -/
theorem names3 (s : ByteArray) (lo hi : Int) (l0 : -9223372036854775808 ≤ lo) (l1 : lo ≤ 9223372036854775807) (h0 : -9223372036854775808 ≤ hi) (h1 : hi ≤ 9223372036854775807) (w : World) (hL : Laid w) :
    Calls Tryd.prog 3 #[.string s, .int .i64 lo, .int .i64 hi] w fun e w' => e = .returned (.bool true) ∧ Below w.heap.size w w' := by
  by_cases hs : s.size ≤ 1000
  · exact names3_short s lo hi hs l0 l1 h0 h1 w hL
  · exact names3_long s lo hi (by omega) w hL
end YtkhggnfhhafkjaaDoor
end Go.Proofs
