/- The law WordsSplits. -/
import Derived.Test.YtkhggnfhhafkjaaDoorRSplit
import Derived.Test.YtkhggnfhhafkjaaDoorShown
namespace Go.Proofs
namespace YtkhggnfhhafkjaaDoor
open Go.RowKit

theorem rsplit24 (s : ByteArray) (w : World) : Calls Tryd.prog 24 #[.string s] w fun e w' => ∃ v, e = .returned (.tuple #[v, .int .i64 (splitF s.data.toList).2]) ∧ FAt w' v (splitF s.data.toList).1 ∧ Below w.heap.size w w' := by
  by_cases h0 : s.size = 0
  · have hn : s.data.toList = [] := List.eq_nil_of_length_eq_zero (by simpa using h0)
    have T : splitF s.data.toList = ([], 0) := by rw [hn]; decide
    rw [T]
    exact (rsplit24_empty s w h0).mono fun e w' h => ⟨_, h.1, FAt.nil _, h.2⟩
  · by_cases h1 : s.size ≤ 8192
    · exact rsplit24_in s w (by omega) h1
    · have T : splitF s.data.toList = ([], 3) := by unfold splitF; rw [if_pos (by simp; omega)]
      rw [T]
      exact (rsplit24_long s w (by omega)).mono fun e w' h => ⟨_, h.1, FAt.nil _, h.2⟩
theorem splitF_few (l : List UInt8) : (splitF l).1.length ≤ 1000000 := by
  unfold splitF
  split
  · simp
  · split
    · split
      · simp
      · rename_i h
        have : (good (items l)).length = (items l).length := by simp [good]
        simp only [this]
        omega
    · simp

theorem shown12x (w : World) (W : World) (hL : Hid (Laid w)) (hB : Below w.heap.size w W) :
    Calls Tryd.prog 12 #[] W fun e w' => e = .returned (.bool true) ∧ Below w.heap.size w w' :=
  (shown12 W (hL.out.self hB)).mono fun _ _ h => ⟨h.1, hB.trans (h.2.mono hB.size)⟩
theorem below_end {w W W' : World} (hB : Below w.heap.size w W) (h : Below W.heap.size W W') : Below w.heap.size w W' := hB.trans (h.mono hB.size)

set_option maxRecDepth 100000 in
theorem splits5_shown (s : ByteArray) (hs : 3000 < s.size ∧ s.size ≤ 8192 ∨ 9000 < s.size) (w : World) (hL : Laid w) :
    Calls Tryd.prog 5 #[.string s] w fun e w' => e = .returned (.bool true) ∧ Below w.heap.size w w' := by
  have HL := Lib.hid hL
  clear hL
  have q1 : decide ((3000 : Int) < (s.size : Int)) = true := decide_eq_true (by omega)
  by_cases h2 : s.size ≤ 8192
  · have q2 : decide ((s.size : Int) ≤ 8192) = true := decide_eq_true (by omega)
    clear hs
    go_enter Tryd.func5, Tryd.ntmps5
    go_wp2_with (go_at_call 12; refine (shown12x w _ HL (Below.refl _ _)).mono ?_; rintro e w1 ⟨rfl, hB1⟩)
    exact bodyPost_ret (v := .bool true) (by simp [results, Tryd.f5, go_sem]) rfl ⟨rfl, hB1⟩
  · have q2 : decide ((s.size : Int) ≤ 8192) = false := decide_eq_false (by omega)
    have q3 : decide ((9000 : Int) < (s.size : Int)) = true := decide_eq_true (by omega)
    clear hs
    go_enter Tryd.func5, Tryd.ntmps5
    go_wp2_with (go_at_call 12; refine (shown12x w _ HL (Below.refl _ _)).mono ?_; rintro e w1 ⟨rfl, hB1⟩)
    exact bodyPost_ret (v := .bool true) (by simp [results, Tryd.f5, go_sem]) rfl ⟨rfl, hB1⟩

set_option maxRecDepth 100000 in
set_option maxHeartbeats 2000000 in
theorem splits5_split (s : ByteArray) (hs : ¬ (3000 < s.size ∧ s.size ≤ 8192 ∨ 9000 < s.size)) (w : World) (hL : Laid w) :
    Calls Tryd.prog 5 #[.string s] w fun e w' => e = .returned (.bool true) ∧ Below w.heap.size w w' := by
  have HL := Lib.hid hL
  clear hL
  have A23 := Lib.hid (fun W (h : EscLaid W) => split23 s W h)
  have A24 := Lib.hid (fun W => rsplit24 s W)
  have AF := Lib.hid (splitF_few s.data.toList)
  generalize splitF s.data.toList = R at *
  obtain ⟨fs, e⟩ := R
  have q3 : decide ((9000 : Int) < (s.size : Int)) = false := decide_eq_false (by omega)
  by_cases h1 : 3000 < s.size
  · have q1 : decide ((3000 : Int) < (s.size : Int)) = true := decide_eq_true (by omega)
    have q2 : decide ((s.size : Int) ≤ 8192) = false := decide_eq_false (by omega)
    clear hs h1
    go_enter Tryd.func5, Tryd.ntmps5
    go_wp2_with (first
      | (go_at_call 23; refine (A23.out _ HL.out.esc).mono ?_; rintro e w1 ⟨v1, rfl, hF1, hb1⟩)
      | (go_at_call 24; refine (A24.out _).mono ?_; rintro e w2 ⟨v2, rfl, hF2, hb2⟩; have hF3 := hF1.below hb2; have hB2 := below_end hb1 hb2)
      | (go_at_call 25; refine (same25 _ _ fs fs AF.out _ hF3 hF2).mono ?_; rintro e w3 ⟨rfl, hb3⟩; have hB3 := below_end hB2 hb3)
      | (go_at_call 12; refine (shown12x w _ HL hB3).mono ?_; rintro e w4 ⟨rfl, hB4⟩))
    exact bodyPost_ret (v := .bool true) (by simp [results, Tryd.f5, go_sem]) rfl ⟨rfl, hB4⟩
  · have q1 : decide ((3000 : Int) < (s.size : Int)) = false := decide_eq_false (by omega)
    clear hs h1
    go_enter Tryd.func5, Tryd.ntmps5
    go_wp2_with (first
      | (go_at_call 23; refine (A23.out _ HL.out.esc).mono ?_; rintro e w1 ⟨v1, rfl, hF1, hb1⟩)
      | (go_at_call 24; refine (A24.out _).mono ?_; rintro e w2 ⟨v2, rfl, hF2, hb2⟩; have hF3 := hF1.below hb2; have hB2 := below_end hb1 hb2)
      | (go_at_call 25; refine (same25 _ _ fs fs AF.out _ hF3 hF2).mono ?_; rintro e w3 ⟨rfl, hb3⟩; have hB3 := below_end hB2 hb3)
      | (go_at_call 12; refine (shown12x w _ HL hB3).mono ?_; rintro e w4 ⟨rfl, hB4⟩))
    exact bodyPost_ret (v := .bool true) (by simp [results, Tryd.f5, go_sem]) rfl ⟨rfl, hB4⟩
/-- WordsSplits answers true -/
theorem splits5 (s : ByteArray) (w : World) (hL : Laid w) :
    Calls Tryd.prog 5 #[.string s] w fun e w' => e = .returned (.bool true) ∧ Below w.heap.size w w' := by
  by_cases hs : 3000 < s.size ∧ s.size ≤ 8192 ∨ 9000 < s.size
  · exact splits5_shown s hs w hL
  · exact splits5_split s hs w hL
end YtkhggnfhhafkjaaDoor
end Go.Proofs
